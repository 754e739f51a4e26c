package rig_test

import (
	"bytes"
	"math"
	"slices"
	"testing"

	"shuntyard/api"
	"shuntyard/codec"
	"shuntyard/guard"
	"shuntyard/lower"
	"shuntyard/rig"
)

func fault(code, at int) api.Fault { return api.Fault{Code: code, At: at} }

var right = fault(0, 0)

func ref(h, f int) api.Ref { return api.Ref{H: h, F: f} }

var (
	first  = ref(0, 0)
	inPort = ref(api.InPort, 0)
)

// said, get, num and plus tell steps of an expression.
func said(n int) api.Push    { return get(ref(api.InArg, n)) }
func get(r api.Ref) api.Push { return api.Push{Op: api.PRef, R: r} }
func num(n uint64) api.Push  { return api.Push{Op: api.PNum, N: n} }
func plus() api.Push         { return api.Push{Op: api.PAdd} }

func set(r api.Ref, e ...api.Push) api.Op { return api.Op{Kind: api.OSet, R: r, E: e} }
func port(e ...api.Push) api.Op           { return api.Op{Kind: api.OPort, E: e} }

// The yard's actions.
const (
	more  = 0 // the first byte is so much more
	gone  = 1 // nowhere
	leads = 2 // by that port, with a second header of that number
	still = 3 // nothing
)

// The yard's tables.
const (
	byWhole = 0 // of the first byte
	byStart = 1 // of the first byte
	byMask  = 2 // of the first byte, and the port that the packet came in by
)

// yard tells a plan of two headers of a byte, the first of which is taken, and of three tables, one of each kind, that are asked one behind the other.
func yard() api.Plan {
	return api.Plan{
		Heads:  []api.Header{{W: []int{8}}, {W: []int{8}}},
		States: []api.State{{Head: 0, Else: api.Accept}},
		Acts: []api.Action{
			more:  {W: []int{8}, Ops: []api.Op{set(first, get(first), said(0), plus())}},
			gone:  {Ops: []api.Op{{Kind: api.ODrop}}},
			leads: {W: []int{16, 8}, Ops: []api.Op{port(said(0)), {Kind: api.OOn, Head: 1}, set(ref(1, 0), said(1))}},
			still: {},
		},
		Tabs: []api.Table{
			byWhole: {Kind: api.KExact, Keys: []api.Ref{first}, Acts: []int{more, gone}, Cap: 2, Def: more, Args: []uint64{1}},
			byStart: {Kind: api.KPrefix, Keys: []api.Ref{first}, Acts: []int{leads, gone, still}, Cap: 3, Def: still},
			byMask:  {Kind: api.KTernary, Keys: []api.Ref{first, inPort}, Acts: []int{still, more, leads, gone}, Cap: 4, Def: still},
		},
		Nodes: []api.Node{
			{Kind: api.NTable, N: byWhole, Yes: 1},
			{Kind: api.NTable, N: byStart, Yes: 2},
			{Kind: api.NTable, N: byMask, Yes: 3},
		},
		Out: []int{0, 1},
	}
}

// whole, start and masked tell entries of the yard's tables.
func whole(key uint64, act int, args ...uint64) api.Entry {
	return api.Entry{Keys: []uint64{key}, Act: act, Args: args}
}

func start(key uint64, long, act int, args ...uint64) api.Entry {
	return api.Entry{Keys: []uint64{key}, Len: long, Act: act, Args: args}
}

func masked(keys, masks [2]uint64, prio, act int, args ...uint64) api.Entry {
	return api.Entry{Keys: keys[:], Masks: masks[:], Prio: prio, Act: act, Args: args}
}

// says tells an E that says something and is for nothing.
func says(act int, args ...uint64) api.Entry { return api.Entry{Act: act, Args: args} }

func send(port int, b ...byte) api.Step { return api.Step{Kind: api.SSend, B: b, Port: port} }

func step(kind, tab int, e api.Entry) api.Step { return api.Step{Kind: kind, Tab: tab, E: e} }

func read(tab int) api.Step { return api.Step{Kind: api.SRead, Tab: tab} }

// sent tells the reply to a packet that goes out, nowhere that to one that does not.
func sent(port int, b ...byte) api.Reply { return api.Reply{R: api.Result{Port: port, Bytes: b}} }

var nowhere = sent(-1)

func told(code int) api.Reply { return api.Reply{Code: code} }

// has tells the reply to SRead of a table.
func has(act int, args []uint64, l ...api.Entry) api.Reply {
	return api.Reply{Entries: l, Default: api.Hit{Act: act, Args: args}}
}

func sameEntry(a, b api.Entry) bool {
	return slices.Equal(a.Keys, b.Keys) && slices.Equal(a.Masks, b.Masks) && a.Len == b.Len && a.Prio == b.Prio && a.Act == b.Act && slices.Equal(a.Args, b.Args)
}

func sameReply(a, b api.Reply) bool {
	return a.Code == b.Code && slices.EqualFunc(a.Entries, b.Entries, sameEntry) &&
		a.Default.Act == b.Default.Act && slices.Equal(a.Default.Args, b.Default.Args) &&
		a.R.Port == b.R.Port && bytes.Equal(a.R.Bytes, b.R.Bytes)
}

// sameProgram: lists without elements are the same, whether nil or empty.
func sameProgram(a, b api.Program) bool {
	return a.Slots == b.Slots && slices.Equal(a.Tabs, b.Tabs) && slices.Equal(a.Code, b.Code)
}

// tester is a Rig that is asked.
type tester struct {
	*testing.T
	*rig.Rig
}

// rigged tells a Rig of a plan that there is nothing wrong with.
func rigged(t *testing.T, p api.Plan) tester {
	t.Helper()
	r, f := rig.New(p)
	if f != right || r == nil {
		t.Fatalf("New tells %v %v", r, f)
	}
	return tester{t, r}
}

// want asks for the reply to a step.
func (r tester) want(want api.Reply, s api.Step) {
	r.Helper()
	if got := r.Do(s); !sameReply(got, want) {
		r.Errorf("%+v: %+v, want %+v", s, got, want)
	}
}

// all tells what the yard's tables have.
func (r tester) all() []api.Reply {
	var l []api.Reply
	for tab := range 3 {
		l = append(l, r.Do(read(tab)))
	}
	return l
}

func TestExampleOfTheDocument(t *testing.T) {
	r := rigged(t, api.Plan{
		Heads:  []api.Header{{W: []int{8}}},
		States: []api.State{{Head: 0, Else: api.Accept}},
		Acts:   []api.Action{{W: []int{8}, Ops: []api.Op{set(first, get(first), said(0), plus())}}},
		Tabs:   []api.Table{{Kind: api.KExact, Keys: []api.Ref{first}, Acts: []int{0}, Cap: 1, Args: []uint64{1}}},
		Nodes:  []api.Node{{Kind: api.NTable, N: 0, Yes: 1}},
		Out:    []int{0},
	})
	r.want(sent(0, 8, 9), send(0, 7, 9))
	r.want(told(0), step(api.SDefault, 0, says(0, 3)))
	r.want(told(0), step(api.SAdd, 0, whole(7, 0, 1)))
	r.want(sent(0, 8, 9), send(0, 7, 9))
	r.want(sent(0, 11, 9), send(0, 8, 9))
	r.want(nowhere, send(0))
}

// All tables are empty at first, and say what the plan says where no entry fits.
func TestTablesAtFirst(t *testing.T) {
	r := rigged(t, yard())
	r.want(has(more, []uint64{1}), read(byWhole))
	r.want(has(still, nil), read(byStart))
	r.want(has(still, nil), read(byMask))
	r.want(sent(0, 6, 9), send(3, 5, 9))
}

func TestTableByWholeKeys(t *testing.T) {
	r := rigged(t, yard())
	r.want(told(api.ErrNone), step(api.SChange, byWhole, whole(5, gone)))
	r.want(told(api.ErrNone), step(api.SDrop, byWhole, whole(5, gone)))
	r.want(told(0), step(api.SAdd, byWhole, whole(5, gone)))
	r.want(told(api.ErrTwice), step(api.SAdd, byWhole, whole(5, more, 7)))
	r.want(told(0), step(api.SAdd, byWhole, whole(4, more, 100)))
	r.want(told(api.ErrFull), step(api.SAdd, byWhole, whole(6, gone)))
	r.want(has(more, []uint64{1}, whole(4, more, 100), whole(5, gone)), read(byWhole))
	r.want(sent(0, 104, 9), send(3, 4, 9))
	r.want(nowhere, send(3, 5, 9))
	r.want(sent(0, 7, 9), send(3, 6, 9))
	r.want(told(0), step(api.SChange, byWhole, whole(5, more, 0)))
	r.want(sent(0, 5, 9), send(3, 5, 9))
	r.want(told(0), step(api.SDrop, byWhole, whole(4, -1, 1, 2, 3)))
	r.want(sent(0, 5, 9), send(3, 4, 9))
	r.want(has(more, []uint64{1}, whole(5, more, 0)), read(byWhole))
	r.want(told(api.ErrMany), step(api.SAdd, byWhole, says(gone)))
	r.want(told(api.ErrForm), step(api.SAdd, byWhole, start(1, 8, gone)))
	r.want(told(api.ErrWidth), step(api.SAdd, byWhole, whole(256, gone)))
	r.want(told(api.ErrKind), step(api.SAdd, byWhole, whole(1, still)))
	r.want(told(api.ErrMany), step(api.SChange, byWhole, whole(5, more)))
	r.want(told(api.ErrWidth), step(api.SChange, byWhole, whole(5, more, 256)))
}

func TestTableByBeginnings(t *testing.T) {
	r := rigged(t, yard())
	r.want(told(0), step(api.SAdd, byStart, start(0xC0, 2, leads, 0xFFFF, 7)))
	r.want(told(0), step(api.SAdd, byStart, start(0x80, 1, gone)))
	r.want(has(still, nil, start(0x80, 1, gone), start(0xC0, 2, leads, 0xFFFF, 7)), read(byStart))
	r.want(sent(0, 0x7F), send(3, 0x7E))
	r.want(nowhere, send(3, 0x80))
	r.want(sent(0xFFFF, 0xC1, 7, 9), send(3, 0xC0, 9))
	r.want(told(api.ErrWidth), step(api.SAdd, byStart, start(0xC1, 2, gone)))
	r.want(told(api.ErrNone), step(api.SChange, byStart, start(0xC0, 3, gone)))
	r.want(told(0), step(api.SChange, byStart, start(0x80, 1, still)))
	r.want(told(0), step(api.SDrop, byStart, start(0xC0, 2, 0)))
	r.want(sent(0, 0xC1, 9), send(3, 0xC0, 9))
	r.want(has(still, nil, start(0x80, 1, still)), read(byStart))
}

func TestTableByMasks(t *testing.T) {
	r := rigged(t, yard())
	byPort := masked([2]uint64{0, 3}, [2]uint64{0, 0xFFFF}, 9, gone)
	both := masked([2]uint64{0x10, 3}, [2]uint64{0xF0, 3}, 2, leads, 4, 5)
	r.want(told(0), step(api.SAdd, byMask, byPort))
	r.want(told(0), step(api.SAdd, byMask, both))
	r.want(told(api.ErrClash), step(api.SAdd, byMask, masked([2]uint64{1, 0}, [2]uint64{1, 0}, 2, gone)))
	r.want(has(still, nil, both, byPort), read(byMask))
	r.want(sent(4, 0x12, 5), send(3, 0x11))
	r.want(nowhere, send(3, 0x21))
	r.want(sent(0, 0x22), send(2, 0x21))
	r.want(told(api.ErrMany), step(api.SAdd, byMask, whole(5, gone)))
	r.want(told(api.ErrNone), step(api.SDrop, byMask, masked([2]uint64{0, 3}, [2]uint64{0, 0xFFFF}, 8, gone)))
	r.want(told(0), step(api.SDrop, byMask, byPort))
	r.want(sent(0, 0x22), send(3, 0x21))
}

// SDefault looks at what E says alone.
func TestDefault(t *testing.T) {
	r := rigged(t, yard())
	r.want(told(api.ErrKind), step(api.SDefault, byWhole, says(still)))
	r.want(told(api.ErrMany), step(api.SDefault, byWhole, says(more)))
	r.want(told(api.ErrMany), step(api.SDefault, byWhole, says(gone, 1)))
	r.want(told(api.ErrWidth), step(api.SDefault, byWhole, says(more, 256)))
	r.want(has(more, []uint64{1}), read(byWhole))
	e := masked([2]uint64{1 << 60, 1}, [2]uint64{2, 3}, -5, more, 255)
	e.Len = 99
	r.want(told(0), step(api.SDefault, byWhole, e))
	r.want(has(more, []uint64{255}), read(byWhole))
	r.want(sent(0, 4), send(3, 5))
	r.want(told(0), step(api.SDefault, byStart, says(leads, 8, 9)))
	r.want(sent(8, 4, 9), send(3, 5))
	r.want(told(0), step(api.SDefault, byMask, says(gone)))
	r.want(nowhere, send(3, 5))
	r.want(has(more, []uint64{255}), read(byWhole))
}

// A step of no kind is told ahead of all else.
func TestNoKind(t *testing.T) {
	r := rigged(t, yard())
	before := r.all()
	for _, kind := range []int{0, 7, -1, -6, 8, 1000, math.MinInt, math.MaxInt} {
		r.want(told(api.ErrKind), api.Step{Kind: kind, E: whole(5, gone)})
		r.want(told(api.ErrKind), api.Step{Kind: kind, Tab: 9, B: make([]byte, 601), Port: -1})
	}
	if got := r.all(); !slices.EqualFunc(got, before, sameReply) {
		t.Errorf("%+v, want %+v", got, before)
	}
}

// That there is no such table is told ahead of what is wrong with the entry.
func TestNoTable(t *testing.T) {
	bare := yard()
	bare.Tabs, bare.Nodes = nil, nil
	for _, l := range []struct {
		tester
		tabs []int
	}{
		{rigged(t, yard()), []int{-1, 3, 4, math.MinInt, math.MaxInt}},
		{rigged(t, bare), []int{-1, 0, 1, math.MinInt, math.MaxInt}},
	} {
		for _, tab := range l.tabs {
			for kind := api.SAdd; kind <= api.SRead; kind++ {
				l.want(told(api.ErrRange), step(kind, tab, whole(5, gone)))
				l.want(told(api.ErrRange), step(kind, tab, api.Entry{}))
			}
			s := send(3, 5)
			s.Tab = tab
			if got := l.Do(s); got.Code != 0 {
				t.Errorf("%+v: %+v", s, got)
			}
		}
	}
}

// A packet that is too long, or by no port, has no Result, not even that of one that goes nowhere.
func TestSend(t *testing.T) {
	r := rigged(t, yard())
	long := bytes.Repeat([]byte{5}, api.MaxPacket+1)
	want := slices.Clone(long[1:])
	want[0]++
	r.want(sent(0, want...), send(0, long[1:]...))
	r.want(told(api.ErrLong), send(0, long...))
	r.want(told(api.ErrLong), send(-1, long...))
	for _, port := range []int{-1, 0x10000, math.MinInt, math.MaxInt} {
		r.want(told(api.ErrRange), send(port, 5))
		r.want(told(api.ErrRange), send(port))
	}
	r.want(sent(0, 6), send(0xFFFF, 5))
	r.want(nowhere, send(0xFFFF))
	r.want(sent(0, 6), api.Step{Kind: api.SSend, Tab: -7, E: whole(1<<63, -1, 1), B: []byte{5}})
}

// What the other kinds have no use for is not looked at.
func TestFieldsOfOtherSteps(t *testing.T) {
	r := rigged(t, yard())
	for _, s := range []struct {
		kind int
		e    api.Entry
		want api.Reply
	}{
		{api.SAdd, whole(5, gone), told(0)},
		{api.SChange, whole(5, more, 2), told(0)},
		{api.SRead, whole(1<<63, -1), has(more, []uint64{1}, whole(5, more, 2))},
		{api.SDrop, whole(5, gone), told(0)},
		{api.SDefault, says(gone), told(0)},
	} {
		r.want(s.want, api.Step{Kind: s.kind, E: s.e, B: make([]byte, api.MaxPacket+1), Port: -1})
	}
	r.want(has(gone, nil), read(byWhole))
}

// A step whose Code is not 0 changes nothing.
func TestCodesChangeNothing(t *testing.T) {
	r := rigged(t, yard())
	for _, s := range []api.Step{
		step(api.SAdd, byWhole, whole(5, gone)),
		step(api.SAdd, byWhole, whole(4, more, 9)),
		step(api.SAdd, byStart, start(0x80, 1, gone)),
		step(api.SAdd, byMask, masked([2]uint64{0, 3}, [2]uint64{0, 3}, 9, leads, 1, 2)),
	} {
		r.want(told(0), s)
	}
	before, packet := r.all(), r.Do(send(3, 1))
	for _, s := range []api.Step{
		step(api.SAdd, byWhole, whole(5, more, 1)),
		step(api.SAdd, byWhole, whole(1, gone)),
		step(api.SChange, byWhole, whole(5, more, 256)),
		step(api.SChange, byWhole, whole(1, gone)),
		step(api.SDrop, byWhole, whole(1, gone)),
		step(api.SDefault, byWhole, says(more, 1, 2)),
		step(api.SAdd, byStart, start(0x80, 1, still)),
		step(api.SChange, byStart, start(0x80, 1, leads, 1)),
		step(api.SDrop, byStart, start(0x80, 2, gone)),
		step(api.SDefault, byStart, says(more, 1)),
		step(api.SAdd, byMask, masked([2]uint64{1, 0}, [2]uint64{1, 0}, 9, still)),
		step(api.SChange, byMask, masked([2]uint64{0, 3}, [2]uint64{0, 3}, 9, 4)),
		step(api.SDefault, byMask, says(leads, 1<<16, 0)),
		step(api.SAdd, 3, whole(1, gone)),
		{Kind: api.SSend, B: make([]byte, api.MaxPacket+1)},
		{Kind: api.SSend, B: []byte{1}, Port: -1},
		{},
	} {
		if got := r.Do(s); got.Code == 0 {
			t.Errorf("%+v: %+v, want a code", s, got)
		}
		if got := r.all(); !slices.EqualFunc(got, before, sameReply) {
			t.Fatalf("behind %+v: %+v, want %+v", s, got, before)
		}
		r.want(packet, send(3, 1))
	}
}

// spoilt tells plans that Lower refuses, some of which codec has bytes of.
func spoilt() []struct {
	name string
	p    api.Plan
	want api.Fault
} {
	change := func(do func(p *api.Plan)) api.Plan {
		p := yard()
		do(&p)
		return p
	}
	return []struct {
		name string
		p    api.Plan
		want api.Fault
	}{
		{"none", api.Plan{}, fault(api.ErrMany, -3)},
		{"out", change(func(p *api.Plan) { p.Out[1] = 2 }), fault(api.ErrRange, 7001)},
		{"what is said", change(func(p *api.Plan) { p.Tabs[1].Args = []uint64{1} }), fault(api.ErrMany, 5001)},
		{"taken twice", change(func(p *api.Plan) {
			p.States = []api.State{{Head: 0, Else: 1}, {Head: 0, Else: api.Accept}}
		}), fault(api.ErrTwice, 3001)},
		{"looked at", change(func(p *api.Plan) {
			p.States[0].On, p.States[0].Cases = ref(1, 0), []api.Case{{To: api.Accept}}
		}), fault(api.ErrGone, 3000)},
		{"a key", change(func(p *api.Plan) { p.Tabs[2].Keys[0] = ref(1, 0) }), fault(api.ErrGone, 6002)},
		{"set", change(func(p *api.Plan) { p.Acts[more].Ops[0].R = ref(1, 0) }), fault(api.ErrGone, 6000)},
	}
}

func TestNewOfWrongPlans(t *testing.T) {
	for _, s := range spoilt() {
		if r, f := rig.New(s.p); r != nil || f != s.want {
			t.Errorf("%s: %v %v, want %v", s.name, r, f, s.want)
		}
		if _, f := lower.Lower(s.p); f != s.want {
			t.Errorf("%s: Lower tells %v, want %v", s.name, f, s.want)
		}
	}
}

func encoded(t *testing.T, p api.Plan) []byte {
	t.Helper()
	b, f := codec.Encode(p)
	if f != right {
		t.Fatalf("Encode tells %v", f)
	}
	return b
}

func TestLoad(t *testing.T) {
	b := encoded(t, yard())
	before := slices.Clone(b)
	x, f := rig.Load(b)
	if f != right || x == nil || !slices.Equal(b, before) {
		t.Fatalf("%v %v, of %v", x, f, b)
	}
	r, other := tester{t, x}, rigged(t, yard())
	if !sameProgram(r.Program(), other.Program()) {
		t.Errorf("%v, want %v", r.Program(), other.Program())
	}
	clear(b)
	r.want(has(more, []uint64{1}), read(byWhole))
	r.want(sent(0, 6, 9), send(3, 5, 9))
	r.want(told(0), step(api.SAdd, byStart, start(0, 0, leads, 6, 7)))
	r.want(sent(6, 6, 7, 9), send(3, 5, 9))
}

func TestLoadOfWrongBytes(t *testing.T) {
	b := encoded(t, yard())
	end := len(b) - 4
	turned := func(at int) []byte {
		l := slices.Clone(b)
		l[at]++
		return l
	}
	summed := func(l ...byte) []byte {
		sum := codec.Sum(l)
		return append(l, byte(sum), byte(sum>>8), byte(sum>>16), byte(sum>>24))
	}
	for _, s := range []struct {
		name string
		b    []byte
		want api.Fault
	}{
		{"none", nil, fault(api.ErrShort, 0)},
		{"six", b[:6], fault(api.ErrShort, 6)},
		{"long", append(slices.Clone(b), make([]byte, api.MaxBytes)...), fault(api.ErrLong, api.MaxBytes)},
		{"mark", turned(0), fault(api.ErrForm, 0)},
		{"sum", turned(end), fault(api.ErrSum, end)},
		{"within", turned(5), fault(api.ErrSum, end)},
		{"nothing within", summed(83, 89, 1), fault(api.ErrShort, 3)},
		{"no plan", summed(83, 89, 1, 0, 0, 0, 0, 0, 0, 0), fault(api.ErrKind, 10)},
	} {
		if r, f := rig.Load(s.b); r != nil || f != s.want {
			t.Errorf("%s: %v %v, want %v", s.name, r, f, s.want)
		}
	}
}

// Bytes of a plan are looked at by codec alone at first, then as New does.
func TestLoadOfWrongPlans(t *testing.T) {
	loaded := 0
	for _, s := range spoilt() {
		b, f := codec.Encode(s.p)
		if f != right {
			continue
		}
		loaded++
		if r, f := rig.Load(b); r != nil || f != s.want {
			t.Errorf("%s: %v %v, want %v", s.name, r, f, s.want)
		}
	}
	if loaded != 4 {
		t.Errorf("%d plans have bytes, want 4", loaded)
	}
}

func TestProgram(t *testing.T) {
	bare := api.Plan{States: []api.State{{Head: -1, Else: api.Accept}}}
	for _, p := range []api.Plan{yard(), bare} {
		r := rigged(t, p)
		want, _ := lower.Lower(p)
		got := r.Program()
		if f := guard.Check(got); f != right || !sameProgram(got, want) {
			t.Errorf("%v (%v), want %v", got, f, want)
		}
		clear(got.Code)
		clear(got.Tabs)
		if again := r.Program(); !sameProgram(again, want) {
			t.Errorf("again: %v, want %v", again, want)
		}
		if got := r.Do(send(3, 5)); got.Code != 0 {
			t.Errorf("behind that: %+v", got)
		}
	}
}

// What is done to tables does not change the program.
func TestProgramAndTables(t *testing.T) {
	r := rigged(t, yard())
	want := r.Program()
	r.want(told(0), step(api.SAdd, byWhole, whole(5, gone)))
	r.want(told(0), step(api.SDefault, byStart, says(gone)))
	r.want(nowhere, send(3, 5))
	if got := r.Program(); !sameProgram(got, want) {
		t.Errorf("%v, want %v", got, want)
	}
}

// Neither a plan, nor an entry, nor a packet is kept or changed, and what was told can be changed.
func TestMemory(t *testing.T) {
	p := yard()
	r := rigged(t, p)
	p.Acts[more].Ops[0].E[1] = num(50)
	p.Acts[leads].W[0] = 1
	p.Tabs[byWhole].Acts[1], p.Tabs[byWhole].Args[0] = leads, 77
	p.Tabs[byMask].Keys[0] = inPort
	e := masked([2]uint64{5, 3}, [2]uint64{7, 7}, 1, leads, 9, 8)
	r.want(told(0), step(api.SAdd, byMask, e))
	e.Keys[0], e.Masks[0], e.Args[0] = 0, 0, 1
	d := says(more, 2)
	r.want(told(0), step(api.SDefault, byWhole, d))
	d.Args[0] = 200
	for range 2 {
		got := r.Do(read(byMask))
		if there := masked([2]uint64{5, 3}, [2]uint64{7, 7}, 1, leads, 9, 8); !sameReply(got, has(still, nil, there)) {
			t.Errorf("%+v", got)
		}
		got.Entries[0].Keys[0], got.Entries[0].Masks[0], got.Entries[0].Args[0] = 0, 0, 1
		got = r.Do(read(byWhole))
		if !sameReply(got, has(more, []uint64{2})) {
			t.Errorf("%+v", got)
		}
		got.Default.Args[0] = 3
	}
	packet := append(make([]byte, 0, 9), 3, 9)
	got := r.Do(send(3, packet...))
	if !sameReply(got, sent(9, 5, 8, 9)) || !slices.Equal(packet[:9], []byte{3, 9, 0, 0, 0, 0, 0, 0, 0}) {
		t.Errorf("%+v, of %v", got, packet[:9])
	}
	clear(packet)
	if !sameReply(got, sent(9, 5, 8, 9)) {
		t.Errorf("the packet is shared: %+v", got)
	}
	clear(got.R.Bytes)
	r.want(sent(9, 5, 8, 9), send(3, 3, 9))
	if other := rigged(t, yard()); !sameProgram(r.Program(), other.Program()) {
		t.Errorf("%v, want %v", r.Program(), other.Program())
	}
}

// Rigs of one plan know nothing of each other, and packets nothing of those ahead.
func TestApart(t *testing.T) {
	p := yard()
	a, b := rigged(t, p), rigged(t, p)
	a.want(told(0), step(api.SAdd, byWhole, whole(5, gone)))
	a.want(told(0), step(api.SDefault, byStart, says(leads, 2, 3)))
	b.want(has(more, []uint64{1}), read(byWhole))
	b.want(has(still, nil), read(byStart))
	for range 3 {
		a.want(nowhere, send(3, 5))
		a.want(sent(2, 8, 3), send(3, 7))
		b.want(sent(0, 6), send(3, 5))
		b.want(nowhere, send(3))
	}
}
