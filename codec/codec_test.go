package codec

import (
	"bytes"
	"hash/crc32"
	"math"
	"math/rand"
	"reflect"
	"slices"
	"testing"

	"shuntyard/api"
	"shuntyard/plan"
)

func fault(code, at int) api.Fault { return api.Fault{Code: code, At: at} }

var right = fault(0, 0)

func ref(h, f int) api.Ref { return api.Ref{H: h, F: f} }

func num(n uint64) api.Push         { return api.Push{Op: api.PNum, N: n} }
func field(h, f int) api.Push       { return api.Push{Op: api.PRef, R: ref(h, f)} }
func step(op int) api.Push          { return api.Push{Op: op} }
func tree(l ...api.Push) []api.Push { return l }

// times tells n times the same.
func times[T any](n int, x T) []T {
	var l []T
	for range n {
		l = append(l, x)
	}
	return l
}

// framed tells bytes with the mark ahead and the right sum behind, which is reckoned by the library.
func framed(between ...byte) []byte {
	b := append([]byte{83, 89, 1}, between...)
	s := crc32.ChecksumIEEE(b)
	return append(b, byte(s), byte(s>>8), byte(s>>16), byte(s>>24))
}

// least tells the document's example.
func least() api.Plan {
	return api.Plan{States: []api.State{{Head: -1, Else: api.Accept}}}
}

// full tells a plan that has something of everything; it is made anew each time.
func full() api.Plan {
	return api.Plan{
		Heads: []api.Header{{W: []int{8}}, {W: []int{4, 12, 16}}, {W: []int{48, 8}}},
		Meta:  []int{4, 48},
		States: []api.State{
			{Head: 0, On: ref(1, 2), Cases: []api.Case{{Value: 1, Mask: 0xFF, To: 1}, {Value: 2, Mask: 0x0F, To: api.Accept}}, Else: api.Reject},
			{Head: 1, On: ref(api.InPort, 0), Cases: []api.Case{{Value: 0xFFFE, Mask: 0xFFFF, To: 2}}, Else: api.Accept},
			{Head: -1, Else: api.Accept},
		},
		Acts: []api.Action{
			{},
			{W: []int{8, 16}, Ops: []api.Op{
				{Kind: api.OSet, R: ref(2, 1), E: tree(field(api.InArg, 0), field(0, 0), step(api.PAdd))},
				{Kind: api.OPort, E: tree(field(api.InArg, 1))},
				{Kind: api.OSum, R: ref(1, 2), Head: 1},
			}},
			{Ops: []api.Op{{Kind: api.OOn, Head: 2}, {Kind: api.OOff, Head: 1}, {Kind: api.ODrop}}},
		},
		Tabs: []api.Table{
			{Kind: api.KExact, Keys: []api.Ref{ref(0, 0), ref(api.InMeta, 0)}, Acts: []int{0, 1}, Cap: 16, Def: 1, Args: []uint64{255, 65535}},
			{Kind: api.KPrefix, Keys: []api.Ref{ref(1, 2)}, Acts: []int{2}, Def: 2},
			{Kind: api.KTernary, Keys: []api.Ref{ref(api.InPort, 0), ref(2, 0), ref(2, 1)}, Acts: []int{0, 2}, Cap: 3},
		},
		Nodes: []api.Node{
			{Kind: api.NIf, E: tree(field(1, 1), num(7), step(api.PLess), step(api.PNot)), Yes: 2, No: 1},
			{Kind: api.NTable, N: 0, Yes: 3},
			{Kind: api.NThere, N: 2, Yes: 3, No: 4},
			{Kind: api.NDo, N: 2, Yes: 4},
		},
		Out: []int{2, 0},
	}
}

// fullBytes tells what stands between the mark and the sum of a full plan, as it was reckoned by hand.
func fullBytes() []byte {
	return slices.Concat(
		[]byte{6, 2, 16, 6, 8, 24, 32, 4, 96, 16},
		[]byte{4, 8, 96},
		[]byte{6},
		[]byte{0, 4, 2, 4, 1, 255, 1, 2, 2, 15, 208, 15, 210, 15},
		[]byte{2, 2, 5, 0, 254, 255, 3, 255, 255, 3, 4, 208, 15},
		[]byte{1, 0, 208, 15},
		[]byte{6},
		[]byte{0, 0},
		[]byte{4, 16, 32, 6, 2, 4, 2, 6, 4, 3, 0, 4, 0, 0, 6, 10, 2, 4, 3, 2, 12, 2, 4, 2},
		[]byte{0, 6, 4, 4, 6, 2, 8},
		[]byte{6},
		[]byte{2, 4, 0, 0, 1, 0, 4, 0, 2, 32, 2, 4, 255, 1, 255, 255, 3},
		[]byte{4, 2, 2, 4, 2, 4, 0, 4, 0},
		[]byte{6, 6, 5, 0, 4, 0, 4, 2, 4, 0, 4, 6, 0, 0},
		[]byte{8},
		[]byte{6, 4, 8, 4, 2, 2, 2, 7, 22, 26, 2},
		[]byte{2, 6, 0},
		[]byte{8, 6, 4, 8},
		[]byte{4, 8, 4},
		[]byte{4, 4, 0},
	)
}

// most tells a plan with as much of everything as there may be, in as many bytes as it can take.
func most() api.Plan {
	wide := tree(num(math.MaxUint64), num(math.MaxUint64), step(api.PAdd), num(math.MaxUint64), step(api.PAdd), num(math.MaxUint64), step(api.PAdd), step(api.PNot))
	all := uint64(1)<<48 - 1
	p := api.Plan{
		Heads: times(6, api.Header{W: times(8, 32)}),
		Meta:  times(4, 48),
		Acts:  times(8, api.Action{W: times(3, 48), Ops: times(5, api.Op{Kind: api.OSet, R: ref(5, 7), E: wide})}),
		Tabs:  times(5, api.Table{Kind: api.KTernary, Keys: times(3, ref(5, 7)), Acts: times(4, 7), Cap: 16, Def: 7, Args: times(3, all)}),
		Out:   []int{5, 4, 3, 2, 1, 0},
	}
	p.States = times(8, api.State{Head: 5, On: ref(api.InMeta, 3), Cases: times(4, api.Case{Value: all, Mask: all, To: api.Reject}), Else: api.Accept})
	p.Nodes = times(10, api.Node{Kind: api.NIf, E: wide, Yes: 10, No: 10})
	return p
}

func TestSum(t *testing.T) {
	for _, c := range []struct {
		text string
		want uint32
	}{
		{"", 0},
		{"123456789", 0xCBF43926},
		{"\x00", 0xD202EF8D},
		{"\xFF", 0xFF000000},
		{"\x00\x00\x00\x00", 0x2144DF1C},
		{"\xFF\xFF\xFF\xFF", 0xFFFFFFFF},
		{"The quick brown fox jumps over the lazy dog", 0x414FA339},
	} {
		if got := Sum([]byte(c.text)); got != c.want {
			t.Errorf("%q: %x, want %x", c.text, got, c.want)
		}
	}
	if got := Sum(nil); got != 0 {
		t.Errorf("nothing: %x", got)
	}
	r := rand.New(rand.NewSource(1))
	for n := range 1000 {
		b := make([]byte, n)
		r.Read(b)
		before := bytes.Clone(b)
		if got, want := Sum(b), crc32.ChecksumIEEE(b); got != want || !bytes.Equal(b, before) {
			t.Fatalf("%v: %x, want %x", before, got, want)
		}
	}
	// There is no bound to how many bytes there are.
	long := bytes.Repeat([]byte{1, 2, 3}, 1<<20)
	if got, want := Sum(long), crc32.ChecksumIEEE(long); got != want {
		t.Errorf("many: %x, want %x", got, want)
	}
}

// wantBytes asks for what Encode tells of a right plan.
func wantBytes(t *testing.T, name string, p api.Plan, want []byte) {
	t.Helper()
	if got, f := Encode(p); !bytes.Equal(got, want) || f != right {
		t.Errorf("%s: %v, %v, want %v", name, got, f, want)
	}
}

// wantPlan asks for what Decode tells of the bytes of a right plan.
func wantPlan(t *testing.T, name string, b []byte, want api.Plan) {
	t.Helper()
	if got, f := Decode(b); !alike(got, want) || f != right {
		t.Errorf("%s: %+v, %v, want %+v", name, got, f, want)
	}
}

// wantFault asks for what Decode tells of bytes that are none of a plan.
func wantFault(t *testing.T, name string, b []byte, want api.Fault) {
	t.Helper()
	got, f := Decode(b)
	if f != want {
		t.Errorf("%s: %v, want %v: %v", name, f, want, b)
	}
	if !reflect.DeepEqual(got, api.Plan{}) {
		t.Errorf("%s: %+v beside a fault", name, got)
	}
}

func TestExample(t *testing.T) {
	b := []byte{83, 89, 1, 0, 0, 2, 1, 0, 208, 15, 0, 0, 0, 0}
	s := crc32.ChecksumIEEE(b)
	b = append(b, byte(s), byte(s>>8), byte(s>>16), byte(s>>24))
	wantBytes(t, "example", least(), b)
	wantPlan(t, "example", b, least())
}

func TestFull(t *testing.T) {
	wantBytes(t, "full", full(), framed(fullBytes()...))
	wantPlan(t, "full", framed(fullBytes()...), full())
}

func TestMost(t *testing.T) {
	b, f := Encode(most())
	if f != right || len(b) > api.MaxBytes {
		t.Fatalf("%d bytes, %v", len(b), f)
	}
	wantPlan(t, "most", b, most())
}

// asked tells a plan that has the number n in it, wherever that stands.
func asked(n uint64) api.Plan {
	p := least()
	p.Nodes = []api.Node{{Kind: api.NIf, E: tree(num(n)), Yes: 1, No: 1}}
	return p
}

// askedBytes tells the bytes of that plan, the number being these.
func askedBytes(n ...byte) []byte {
	return framed(slices.Concat([]byte{0, 0, 2, 1, 0, 208, 15, 0, 0, 2, 6, 2, 2, 2}, n, []byte{2, 0})...)
}

func TestPlainNumbers(t *testing.T) {
	for _, c := range []struct {
		n    uint64
		want []byte
	}{
		{0, []byte{0}}, {1, []byte{1}}, {127, []byte{127}},
		{128, []byte{128, 1}}, {129, []byte{129, 1}}, {255, []byte{255, 1}}, {256, []byte{128, 2}}, {300, []byte{172, 2}},
		{1<<14 - 1, []byte{255, 127}}, {1 << 14, []byte{128, 128, 1}},
		{1<<21 - 1, []byte{255, 255, 127}}, {1 << 21, []byte{128, 128, 128, 1}},
		{1<<56 - 1, []byte{255, 255, 255, 255, 255, 255, 255, 127}}, {1 << 56, []byte{128, 128, 128, 128, 128, 128, 128, 128, 1}},
		{1<<63 - 1, []byte{255, 255, 255, 255, 255, 255, 255, 255, 127}},
		{1 << 63, []byte{128, 128, 128, 128, 128, 128, 128, 128, 128, 1}},
		{math.MaxUint64, []byte{255, 255, 255, 255, 255, 255, 255, 255, 255, 1}},
	} {
		wantBytes(t, "number", asked(c.n), askedBytes(c.want...))
		wantPlan(t, "number", askedBytes(c.want...), asked(c.n))
	}
	for i := range 64 {
		for _, n := range []uint64{1<<i - 1, 1 << i, 1<<i + 1} {
			b, f := Encode(asked(n))
			if f != right {
				t.Fatalf("%d: %v", n, f)
			}
			wantPlan(t, "a power of two", b, asked(n))
		}
	}
}

// Numbers that no right plan has are read all the same: they are what plan.Check finds.
func TestNumbersWithSign(t *testing.T) {
	for _, c := range []struct {
		n    int
		want []byte
	}{
		{0, []byte{0}}, {-1, []byte{1}}, {1, []byte{2}}, {-2, []byte{3}}, {2, []byte{4}}, {-3, []byte{5}},
		{63, []byte{126}}, {-64, []byte{127}}, {64, []byte{128, 1}}, {-65, []byte{129, 1}},
		{1000, []byte{208, 15}}, {-1000, []byte{207, 15}},
		{math.MaxInt, []byte{254, 255, 255, 255, 255, 255, 255, 255, 255, 1}},
		{math.MinInt, []byte{255, 255, 255, 255, 255, 255, 255, 255, 255, 1}},
	} {
		w := &writer{}
		w.number(c.n)
		if !bytes.Equal(w.out, c.want) {
			t.Errorf("%d: %v, want %v", c.n, w.out, c.want)
		}
		r := &reader{in: c.want}
		if got := r.number(); got != c.n || r.at != len(c.want) {
			t.Errorf("%v: %d to %d, want %d", c.want, got, r.at, c.n)
		}
	}
	// Where a state leads if nothing else is so, as a number of ten bytes: it is no state, but it is over.
	for _, last := range []byte{254, 255} {
		between := slices.Concat([]byte{0, 0, 2, 1, 0}, []byte{last}, times(8, byte(255)), []byte{1, 0, 0, 0, 0})
		wantFault(t, "ten bytes", framed(between...), fault(api.ErrKind, 3+len(between)))
	}
}

func TestEncodeWritesNothingThatIsNotThere(t *testing.T) {
	p := full()
	junk := tree(api.Push{Op: 99, R: ref(99, 99), N: 99})
	p.States[2].On = ref(-77, 77)
	for i := range p.Acts {
		for k, o := range p.Acts[i].Ops {
			if o.Kind != api.OSet && o.Kind != api.OSum {
				o.R = ref(-77, 77)
			}
			if o.Kind != api.OSet && o.Kind != api.OPort {
				o.E = junk
			}
			if o.Kind != api.OOn && o.Kind != api.OOff && o.Kind != api.OSum {
				o.Head = 77
			}
			p.Acts[i].Ops[k] = o
			litter(o.E)
		}
	}
	for i, n := range p.Nodes {
		if n.Kind == api.NIf {
			n.N = -77
			litter(n.E)
		} else {
			n.E = junk
		}
		if n.Kind != api.NIf && n.Kind != api.NThere {
			n.No = 77
		}
		p.Nodes[i] = n
	}
	if f := plan.Check(p); f != right {
		t.Fatalf("no plan: %v", f)
	}
	wantBytes(t, "junk", p, framed(fullBytes()...))
}

// litter fills what steps do not have.
func litter(e []api.Push) {
	for i, s := range e {
		if s.Op != api.PNum {
			e[i].N = 77
		}
		if s.Op != api.PRef {
			e[i].R = ref(77, 77)
		}
	}
}

func TestEncodeFaults(t *testing.T) {
	for _, c := range []struct {
		name string
		do   func(p *api.Plan)
		want api.Fault
	}{
		{"nothing", func(p *api.Plan) { *p = api.Plan{} }, fault(api.ErrMany, -3)},
		{"7 headers", func(p *api.Plan) { p.Heads = times(7, api.Header{W: []int{8}}) }, fault(api.ErrMany, -1)},
		{"a header of 7 bits", func(p *api.Plan) { p.Heads[1].W = []int{7} }, fault(api.ErrWidth, 1001)},
		{"Meta of no bits", func(p *api.Plan) { p.Meta[1] = 0 }, fault(api.ErrWidth, 2001)},
		{"a state that leads back", func(p *api.Plan) { p.States[1].Else = 0 }, fault(api.ErrRound, 3001)},
		{"a deed of no kind", func(p *api.Plan) { p.Acts[2].Ops[0].Kind = 7 }, fault(api.ErrKind, 4002)},
		{"a step of no kind", func(p *api.Plan) { p.Acts[1].Ops[0].E[0].Op = 14 }, fault(api.ErrTree, 4001)},
		{"a table of no kind", func(p *api.Plan) { p.Tabs[0].Kind = 4 }, fault(api.ErrKind, 5000)},
		{"a node of no kind", func(p *api.Plan) { p.Nodes[3].Kind = 5 }, fault(api.ErrKind, 6003)},
		{"twice out", func(p *api.Plan) { p.Out = []int{1, 1} }, fault(api.ErrTwice, 7001)},
		{"the first counts", func(p *api.Plan) { p.Out, p.Meta[0] = []int{9}, 49 }, fault(api.ErrWidth, 2000)},
		{"very many", func(p *api.Plan) { p.Acts = make([]api.Action, 1000000) }, fault(api.ErrMany, -4)},
	} {
		p := full()
		c.do(&p)
		if got, f := Encode(p); len(got) != 0 || f != c.want {
			t.Errorf("%s: %v, %v, want %v", c.name, got, f, c.want)
		}
		if f := plan.Check(p); f != c.want {
			t.Errorf("%s: Check has %v, want %v", c.name, f, c.want)
		}
	}
}

func TestDecodeFrame(t *testing.T) {
	good := framed(fullBytes()...)
	for n := range 7 {
		wantFault(t, "fewer than seven", good[:n], fault(api.ErrShort, n))
		wantFault(t, "fewer than seven, others", make([]byte, n), fault(api.ErrShort, n))
	}
	wantFault(t, "nil", nil, fault(api.ErrShort, 0))
	wantFault(t, "seven", framed(), fault(api.ErrShort, 3))
	wantFault(t, "seven others", make([]byte, 7), fault(api.ErrForm, 0))

	zeros := framed(make([]byte, 8000-7)...)
	wantFault(t, "8000 bytes", zeros, fault(api.ErrForm, 10))
	zeros = framed(make([]byte, 8001-7)...)
	wantFault(t, "8001 bytes", zeros, fault(api.ErrLong, 8000))
	zeros[0] = 0
	wantFault(t, "8001 others", zeros, fault(api.ErrLong, 8000))
	wantFault(t, "very many", make([]byte, 3000000), fault(api.ErrLong, 8000))
	wantFault(t, "a plan, and more", append(bytes.Clone(good), make([]byte, 8000)...), fault(api.ErrLong, 8000))

	end := len(good) - 4
	for i := range good {
		for bit := range 8 {
			b := bytes.Clone(good)
			b[i] ^= 1 << bit
			want := fault(api.ErrSum, end)
			if i < 3 {
				want = fault(api.ErrForm, 0)
			}
			wantFault(t, "another bit", b, want)
		}
	}
	b := bytes.Clone(good)
	slices.Reverse(b[end:])
	wantFault(t, "the sum, the highest first", b, fault(api.ErrSum, end))
	for i := range 3 {
		b := bytes.Clone(good[:end])
		b[i]++
		b = append(b, framedSum(b)...)
		wantFault(t, "another mark, its sum right", b, fault(api.ErrForm, 0))
	}
	s := framedSum(good[3:end])
	wantFault(t, "the sum of what is between", append(bytes.Clone(good[:end]), s...), fault(api.ErrSum, end))
}

// framedSum tells the sum of bytes as it would stand behind them.
func framedSum(b []byte) []byte {
	s := crc32.ChecksumIEEE(b)
	return []byte{byte(s), byte(s >> 8), byte(s >> 16), byte(s >> 24)}
}

func TestDecodeShort(t *testing.T) {
	// Of a plan's bytes that end early, all that is left is right: a number is missing, or they are not as many as a count asks for.
	between := fullBytes()
	for n := range between {
		_, f := Decode(framed(between[:n]...))
		if f != fault(api.ErrShort, 3+n) && f.Code != api.ErrMany {
			t.Errorf("%d bytes: %v", n, f)
		}
	}
	for _, c := range []struct {
		name    string
		between []byte
	}{
		{"no count", nil},
		{"a count that goes on", []byte{128}},
		{"a count that goes on and on", []byte{255, 255, 255}},
		{"nine bytes that go on", times(9, byte(255))},
		{"nine bytes of a number that go on", slices.Concat([]byte{0, 0, 2}, times(9, byte(128)))},
		{"no second count", []byte{0}},
		{"no count of cases", []byte{0, 0, 2, 1}},
		{"no Else", []byte{0, 0, 2, 1, 0}},
		{"half an Else", []byte{0, 0, 2, 1, 0, 208}},
		{"no second state", []byte{0, 0, 4, 1, 0, 208, 15}},
		{"no Out", []byte{0, 0, 2, 1, 0, 208, 15, 0, 0, 0}},
		{"a case without Mask", []byte{0, 0, 2, 1, 2, 5, 0, 9}},
		{"a deed without Kind", []byte{0, 0, 0, 4, 0, 2, 8}},
		{"a node without Yes", []byte{0, 0, 0, 0, 0, 2, 2}},
		{"a node of no kind without N", []byte{0, 0, 0, 0, 0, 2, 10, 2}},
		{"a node without No", []byte{0, 0, 0, 0, 0, 2, 8, 2, 0}},
	} {
		wantFault(t, c.name, framed(c.between...), fault(api.ErrShort, 3+len(c.between)))
	}
}

func TestDecodeNumbers(t *testing.T) {
	for _, c := range []struct {
		name string
		n    []byte
		at   int // of the wrong byte in the number
	}{
		{"0 behind one", []byte{128, 0}, 1},
		{"0 behind one that is not 0", []byte{129, 0}, 1},
		{"0 behind two", []byte{255, 255, 0}, 2},
		{"0 as the ninth", append(times(8, byte(255)), 0), 8},
		{"0 as the tenth", append(times(9, byte(255)), 0), 9},
		{"2 as the tenth", append(times(9, byte(255)), 2), 9},
		{"127 as the tenth", append(times(9, byte(128)), 127), 9},
		{"the tenth goes on", append(times(9, byte(255)), 128, 1), 9},
		{"the tenth goes on, with a 1", append(times(9, byte(255)), 129, 0), 9},
		{"eleven", times(11, byte(255)), 9},
		{"twenty", times(20, byte(128)), 9},
	} {
		// At the place of a count, of a plain number, and of one with a sign.
		wantFault(t, c.name+", count", framed(append(c.n, 0, 0, 0, 0, 0, 0, 0, 0)...), fault(api.ErrRange, 3+c.at))
		wantFault(t, c.name+", plain", askedBytes(c.n...), fault(api.ErrRange, 3+14+c.at))
		wantFault(t, c.name+", Else", framed(slices.Concat([]byte{0, 0, 2, 1, 0}, c.n, []byte{0, 0, 0, 0})...), fault(api.ErrRange, 3+5+c.at))
		// The number need not be over there.
		wantFault(t, c.name+", last", framed(append([]byte{0}, c.n[:c.at+1]...)...), fault(api.ErrRange, 4+c.at))
		wantFault(t, c.name+", too early", framed(append([]byte{0}, c.n[:c.at]...)...), fault(api.ErrShort, 4+c.at))
	}
	wantFault(t, "a 0 alone is one", framed(0, 0, 2, 0, 0, 208, 15, 0, 0, 0, 0), fault(api.ErrKind, 14))
}

// counts tells for each kind of count what stands ahead of it.
func counts() map[string][]byte {
	return map[string][]byte{
		"headers": {},
		"widths":  {2},
		"Meta":    {0},
		"states":  {0, 0},
		"cases":   {0, 0, 2, 1},
		"actions": {0, 0, 0},
		"W":       {0, 0, 0, 2},
		"deeds":   {0, 0, 0, 2, 0},
		"set":     {0, 0, 0, 2, 0, 2, 2, 0, 0},
		"port":    {0, 0, 0, 2, 0, 2, 10},
		"tables":  {0, 0, 0, 0},
		"keys":    {0, 0, 0, 0, 2, 2},
		"Acts":    {0, 0, 0, 0, 2, 2, 0},
		"Args":    {0, 0, 0, 0, 2, 2, 0, 0, 0, 0},
		"nodes":   {0, 0, 0, 0, 0},
		"if":      {0, 0, 0, 0, 0, 2, 6, 2},
		"Out":     {0, 0, 0, 0, 0, 0},
	}
}

func TestDecodeCounts(t *testing.T) {
	ten := func(first byte) []byte { return slices.Concat([]byte{first}, times(8, byte(255)), []byte{1}) }
	for name, ahead := range counts() {
		want := fault(api.ErrMany, 3+len(ahead))
		try := func(what string, count []byte, behind int) {
			t.Helper()
			wantFault(t, name+what, framed(slices.Concat(ahead, count, make([]byte, behind))...), want)
		}
		try(", -1", []byte{1}, 20)
		try(", -2", []byte{3}, 20)
		try(", -64", []byte{127}, 200)
		try(", -65", []byte{129, 1}, 200)
		try(", the least", ten(255), 20)
		try(", the greatest", ten(254), 20)
		try(", 1 of 0", []byte{2}, 0)
		try(", 4 of 3", []byte{8}, 3)
		try(", 63 of 62", []byte{126}, 62)
		try(", 64 of 63", []byte{128, 1}, 63)
		try(", 8000 of 7000", []byte{128, 125}, 7000)

		// As many as there are bytes behind it: that is no fault of the count, whatever is behind.
		for count, many := range map[int][]byte{3: {6}, 63: {126}, 64: {128, 1}, 1000: {208, 15}} {
			b := framed(slices.Concat(ahead, many, make([]byte, count))...)
			if _, f := Decode(b); f.Code == api.ErrMany {
				t.Errorf("%s, %d of %d: %v", name, count, count, f)
			}
		}
	}
}

// Each list is read where the one ahead of it ends: elements of one byte are as many as there are bytes.
func TestDecodeListsOfBytes(t *testing.T) {
	for _, c := range []struct {
		name    string
		between []byte
		want    api.Fault
	}{
		{"headers without widths to the end", []byte{6, 0, 0, 0}, fault(api.ErrShort, 7)},
		{"Meta to the end", []byte{0, 6, 0, 0, 0}, fault(api.ErrShort, 8)},
		{"Out to the end", []byte{0, 0, 0, 0, 0, 0, 6, 0, 0, 0}, fault(api.ErrKind, 13)},
		{"Out not to the end", []byte{0, 0, 0, 0, 0, 0, 4, 0, 0, 0}, fault(api.ErrForm, 12)},
		{"deeds of no kind", []byte{0, 0, 0, 2, 0, 6, 0, 14, 1, 0, 0, 0}, fault(api.ErrKind, 15)},
		{"steps of no kind", []byte{0, 0, 0, 2, 0, 2, 10, 6, 0, 28, 1, 0, 0, 0}, fault(api.ErrKind, 17)},
		{"a table of no kind", []byte{0, 0, 0, 0, 2, 8, 0, 0, 0, 0, 0, 0, 0}, fault(api.ErrKind, 16)},
		{"nodes of no kind", []byte{0, 0, 0, 0, 0, 4, 0, 2, 2, 10, 2, 2, 0}, fault(api.ErrKind, 16)},
		{"a node of no kind, and a No", []byte{0, 0, 0, 0, 0, 2, 10, 2, 2, 0, 0}, fault(api.ErrForm, 13)},
		{"a deed of no kind, and a Head", []byte{0, 0, 0, 2, 0, 2, 14, 0, 0, 0, 0}, fault(api.ErrForm, 13)},
	} {
		wantFault(t, c.name, framed(c.between...), c.want)
	}
}

func TestDecodeLeft(t *testing.T) {
	between := fullBytes()
	at := 3 + len(between)
	wantFault(t, "a byte left", framed(append(between, 0)...), fault(api.ErrForm, at))
	wantFault(t, "bytes left", framed(append(between, 255, 255, 255)...), fault(api.ErrForm, at))
	wantFault(t, "a plan twice", framed(append(between, between...)...), fault(api.ErrForm, at))
	wantFault(t, "a sum twice", framed(framed(between...)[3:]...), fault(api.ErrForm, at))
	wantFault(t, "a byte left of what is no plan", framed(0, 0, 0, 0, 0, 0, 0, 9), fault(api.ErrForm, 10))
}

func TestDecodeNoPlan(t *testing.T) {
	wantFault(t, "no state", framed(0, 0, 0, 0, 0, 0, 0), fault(api.ErrKind, 10))
	wantFault(t, "a header that is not there", framed(0, 0, 2, 0, 0, 208, 15, 0, 0, 0, 0), fault(api.ErrKind, 14))
	wantFault(t, "7 headers", framed(slices.Concat([]byte{14}, times(14, byte(2)), []byte{0, 2, 1, 0, 208, 15, 0, 0, 0, 0})...), fault(api.ErrKind, 28))
	wantFault(t, "Out twice", framed(2, 2, 16, 0, 2, 0, 0, 208, 15, 0, 0, 0, 4, 0, 0), fault(api.ErrKind, 18))
	wantPlan(t, "Out once", framed(2, 2, 16, 0, 2, 0, 0, 208, 15, 0, 0, 0, 2, 0), api.Plan{
		Heads: []api.Header{{W: []int{8}}}, States: []api.State{{Else: api.Accept}}, Out: []int{0},
	})
}

// What is wrong in front is told, whatever is wrong behind.
func TestDecodeTellsTheFirst(t *testing.T) {
	for _, c := range []struct {
		name    string
		between []byte
		want    api.Fault
	}{
		{"a count, then a number", []byte{0, 1, 128, 0}, fault(api.ErrMany, 4)},
		{"a number, then a count", []byte{0, 2, 128, 0, 1}, fault(api.ErrRange, 6)},
		{"a number, then its end", []byte{0, 0, 2, 128, 0, 128}, fault(api.ErrRange, 7)},
		{"a count that is too great, in too many bytes", []byte{0, 136, 0}, fault(api.ErrRange, 5)},
		{"a count that is too great, ahead of the end", []byte{0, 126, 128}, fault(api.ErrMany, 4)},
		{"no plan in front, a number behind", []byte{0, 0, 0, 0, 0, 0, 2, 128}, fault(api.ErrShort, 11)},
		{"7 headers, then a count", slices.Concat([]byte{14}, times(14, byte(2)), []byte{1}), fault(api.ErrMany, 18)},
		{"an outer count, then an inner one", []byte{40, 1, 1, 1}, fault(api.ErrMany, 3)},
		{"an inner count, then no more", []byte{6, 0, 1, 0}, fault(api.ErrMany, 5)},
	} {
		wantFault(t, c.name, framed(c.between...), c.want)
		b := framed(c.between...)
		b[len(b)-1]++
		wantFault(t, c.name+", torn", b, fault(api.ErrSum, len(b)-4))
		b[0]++
		wantFault(t, c.name+", torn, of another mark", b, fault(api.ErrForm, 0))
	}
}
