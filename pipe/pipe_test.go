package pipe

import (
	"bytes"
	"math"
	"slices"
	"testing"

	"shuntyard/api"
	"shuntyard/flow"
	"shuntyard/pack"
	"shuntyard/store"
)

func fault(code, at int) api.Fault { return api.Fault{Code: code, At: at} }

var right = fault(0, 0)

func ref(h, f int) api.Ref { return api.Ref{H: h, F: f} }

var (
	inMeta = ref(api.InMeta, 0)
	inArg  = ref(api.InArg, 0)
	inPort = ref(api.InPort, 0)
)

// num, get and step tell steps of an expression.
func num(n uint64) api.Push  { return api.Push{Op: api.PNum, N: n} }
func get(r api.Ref) api.Push { return api.Push{Op: api.PRef, R: r} }
func step(op int) api.Push   { return api.Push{Op: op} }

func set(r api.Ref, e ...api.Push) api.Op { return api.Op{Kind: api.OSet, R: r, E: e} }
func on(head int) api.Op                  { return api.Op{Kind: api.OOn, Head: head} }
func off(head int) api.Op                 { return api.Op{Kind: api.OOff, Head: head} }
func drop() api.Op                        { return api.Op{Kind: api.ODrop} }
func port(e ...api.Push) api.Op           { return api.Op{Kind: api.OPort, E: e} }
func total(r api.Ref, head int) api.Op    { return api.Op{Kind: api.OSum, R: r, Head: head} }

// act tells an action without parameters, with one that has some.
func act(l ...api.Op) api.Action           { return api.Action{Ops: l} }
func with(w []int, l ...api.Op) api.Action { return api.Action{W: w, Ops: l} }

func ask(n, yes int) api.Node       { return api.Node{Kind: api.NTable, N: n, Yes: yes} }
func do(n, yes int) api.Node        { return api.Node{Kind: api.NDo, N: n, Yes: yes} }
func there(n, yes, no int) api.Node { return api.Node{Kind: api.NThere, N: n, Yes: yes, No: no} }
func check(yes, no int, e ...api.Push) api.Node {
	return api.Node{Kind: api.NIf, E: e, Yes: yes, No: no}
}

// take tells a state that takes a header, and leads to one place alone; look one that looks at a field then.
func take(head, to int) api.State { return api.State{Head: head, Else: to} }
func look(head int, r api.Ref, other int, l ...api.Case) api.State {
	return api.State{Head: head, On: r, Cases: l, Else: other}
}

// yard tells a plan of four headers (of 1, 2, 4 and 8 bytes) whose parser takes the header 0, and 1 behind it if 0's lowest bit is 1; all that is there goes out in order.
func yard(acts []api.Action, nodes ...api.Node) api.Plan {
	return api.Plan{
		Heads: []api.Header{
			{W: []int{8}},
			{W: []int{4, 12}},
			{W: []int{16, 16}},
			{W: []int{48, 1, 15}},
		},
		Meta: []int{4, 48},
		States: []api.State{
			look(0, ref(0, 0), api.Accept, api.Case{Value: 1, Mask: 1, To: 1}),
			take(1, api.Accept),
		},
		Acts:  acts,
		Nodes: nodes,
		Out:   []int{0, 1, 2, 3},
	}
}

// doing tells a yard whose one node does those deeds.
func doing(l ...api.Op) api.Plan {
	return yard([]api.Action{act(l...)}, do(0, 1))
}

// parsing tells a plan like the yard, without nodes, that has those states.
func parsing(l ...api.State) api.Plan {
	p := yard(nil)
	p.States = l
	return p
}

// out tells what goes out by a port, gone what goes nowhere.
func out(port int, b ...byte) api.Result { return api.Result{Port: port, Bytes: b} }

var gone = api.Result{Port: -1}

func alike(a, b api.Result) bool { return a.Port == b.Port && bytes.Equal(a.Bytes, b.Bytes) }

// piped tells a Pipe of a plan that there is nothing wrong with.
func piped(t *testing.T, name string, p api.Plan) *Pipe {
	t.Helper()
	q, f := New(p)
	if f != right || q == nil {
		t.Fatalf("%s: New tells %v", name, f)
	}
	return q
}

// run is what becomes of a packet by a plan with empty tables.
type run struct {
	name string
	p    api.Plan
	b    []byte
	port int
	want api.Result
}

func tryRuns(t *testing.T, l []run) {
	t.Helper()
	for _, c := range l {
		q := piped(t, c.name, c.p)
		for range 2 {
			if got, f := q.Run(c.b, c.port); f != right || !alike(got, c.want) {
				t.Errorf("%s: %v %v, want %v", c.name, got, f, c.want)
			}
		}
	}
}

// tell asks a Pipe what becomes of a packet.
func tell(t *testing.T, name string, q *Pipe, b []byte, port int, want api.Result) {
	t.Helper()
	if got, f := q.Run(b, port); f != right || !alike(got, want) {
		t.Errorf("%s: %v %v, want %v", name, got, f, want)
	}
}

// A header of 8 bits that is taken, a node that sets it to itself and 1.
func TestPipeExample(t *testing.T) {
	p := api.Plan{
		Heads:  []api.Header{{W: []int{8}}},
		States: []api.State{take(0, api.Accept)},
		Acts:   []api.Action{act(set(ref(0, 0), get(ref(0, 0)), num(1), step(api.PAdd)))},
		Nodes:  []api.Node{do(0, 1)},
		Out:    []int{0},
	}
	tryRuns(t, []run{
		{"7 9", p, []byte{7, 9}, 3, out(0, 8, 9)},
		{"255", p, []byte{255}, 3, out(0, 0)},
		{"the empty one", p, nil, 3, gone},
		{"the empty one, not nil", p, []byte{}, 3, gone},
	})
}

// A header of 8 bits, by a table: what it said is added.
func TestTableExample(t *testing.T) {
	x := ref(0, 0)
	for _, kind := range []int{api.KExact, api.KPrefix, api.KTernary} {
		q := piped(t, "example", api.Plan{
			Heads:  []api.Header{{W: []int{8}}},
			States: []api.State{take(0, api.Accept)},
			Acts:   []api.Action{with([]int{8}, set(x, get(x), get(inArg), step(api.PAdd)))},
			Tabs:   []api.Table{{Kind: kind, Keys: []api.Ref{x}, Acts: []int{0}, Cap: 4, Args: []uint64{1}}},
			Nodes:  []api.Node{ask(0, 1)},
			Out:    []int{0},
		})
		tell(t, "where none fits", q, []byte{7, 9}, 0, out(0, 8, 9))
		e := api.Entry{Keys: []uint64{7}, Args: []uint64{100}}
		switch kind {
		case api.KPrefix:
			e.Len = 8
		case api.KTernary:
			e.Masks = []uint64{255}
		}
		if code := q.Tabs[0].Add(e); code != 0 {
			t.Fatalf("kind %d: Add tells %d", kind, code)
		}
		tell(t, "by the entry", q, []byte{7, 9}, 0, out(0, 107, 9))
		tell(t, "by none", q, []byte{6, 9}, 0, out(0, 7, 9))
	}
}

func TestRunFaults(t *testing.T) {
	long := make([]byte, api.MaxPacket+1)
	for _, c := range []struct {
		name string
		b    []byte
		port int
		want api.Fault
	}{
		{"as long as may be", long[:api.MaxPacket], 0, right},
		{"one more", long, 0, fault(api.ErrLong, -1)},
		{"many more", make([]byte, 100000), 0, fault(api.ErrLong, -1)},
		{"the last port", long[:1], 0xFFFF, right},
		{"a port more", long[:1], 0x10000, fault(api.ErrRange, -1)},
		{"a port below", long[:1], -1, fault(api.ErrRange, -1)},
		{"the greatest number", nil, math.MaxInt, fault(api.ErrRange, -1)},
		{"the least number", nil, math.MinInt, fault(api.ErrRange, -1)},
		{"low bits that are a port", long[:1], 1<<32 + 5, fault(api.ErrRange, -1)},
		{"both: the length is told", long, -1, fault(api.ErrLong, -1)},
		{"both: the length is told, above", long, 1 << 40, fault(api.ErrLong, -1)},
	} {
		for name, p := range map[string]api.Plan{
			"all": yard(nil), "refused": parsing(take(-1, api.Reject)), "dropped": doing(drop(), port(num(7))),
		} {
			got, f := piped(t, name, p).Run(c.b, c.port)
			if f != c.want {
				t.Errorf("%s, %s: %v, want %v", c.name, name, f, c.want)
			}
			if f != right && !alike(got, api.Result{}) {
				t.Errorf("%s, %s: with a fault %v", c.name, name, got)
			}
		}
	}
}

func TestRunOfTheLongest(t *testing.T) {
	b := make([]byte, api.MaxPacket)
	for i := range b {
		b[i] = byte(i * 7)
	}
	p := yard([]api.Action{act(on(1), on(2), on(3), set(ref(3, 0), num(math.MaxUint64)))}, do(0, 1))
	p.Out = []int{3, 0, 2, 1}
	want := append([]byte{255, 255, 255, 255, 255, 255, 0, 0, 0, 0, 0, 0, 0, 0, 0}, b[1:]...)
	tryRuns(t, []run{{"more goes out than came in", p, b, 1, out(0, want...)}})
}

func TestParsing(t *testing.T) {
	first := ref(0, 0)
	to := func(value, mask uint64, to int) api.Case { return api.Case{Value: value, Mask: mask, To: to} }
	tryRuns(t, []run{
		{"one header", yard(nil), []byte{2, 5}, 0, out(0, 2, 5)},
		{"two headers", yard(nil), []byte{3, 0x12, 0x34, 5}, 0, out(0, 3, 0x12, 0x34, 5)},
		{"nothing behind", yard(nil), []byte{3, 0x12, 0x34}, 0, out(0, 3, 0x12, 0x34)},
		{"the second is short", yard(nil), []byte{3, 0x12}, 0, gone},
		{"the second has nothing", yard(nil), []byte{3}, 0, gone},
		{"the first has nothing", yard(nil), nil, 0, gone},
		{"refused", parsing(take(0, api.Reject)), []byte{1, 2}, 0, gone},
		{"refused by a case", parsing(look(0, first, api.Accept, to(7, 7, api.Reject))), []byte{15, 1}, 0, gone},
		{"accepted by a case", parsing(look(0, first, api.Reject, to(7, 7, api.Accept))), []byte{15, 1}, 0, out(0, 15, 1)},
		{"no header", parsing(take(-1, api.Accept)), []byte{1, 2}, 0, out(0, 1, 2)},
		{"no header, nothing", parsing(take(-1, api.Accept)), nil, 0, out(0)},
		{"no header, refused", parsing(take(-1, api.Reject)), []byte{1, 2}, 0, gone},
		{"a state between without a header", parsing(take(0, 1), take(-1, 2), take(1, api.Accept)), []byte{1, 2, 3, 4}, 0, out(0, 1, 2, 3, 4)},
		{"a state is passed by", parsing(take(1, 2), take(3, api.Reject), take(0, api.Accept)), []byte{1, 2, 3, 4}, 0, out(0, 3, 1, 2, 4)},
		{"8 bytes, just", parsing(take(3, api.Accept)), []byte{1, 2, 3, 4, 5, 6, 7, 8}, 0, out(0, 1, 2, 3, 4, 5, 6, 7, 8)},
		{"8 bytes, one less", parsing(take(3, api.Accept)), []byte{1, 2, 3, 4, 5, 6, 7}, 0, gone},
	})
}

func TestParsingCases(t *testing.T) {
	to := func(value, mask uint64, to int) api.Case { return api.Case{Value: value, Mask: mask, To: to} }
	// by tells a parser that looks at r when the header 0 was taken, and takes 1, 2 or 3 behind it: Out tells which, being all but 0.
	by := func(r api.Ref, l ...api.Case) api.Plan {
		p := parsing(look(0, r, api.Accept, l...), take(1, api.Accept), take(2, api.Accept), take(3, api.Accept))
		p.Acts = []api.Action{act(off(0)), act(port(num(1))), act(port(num(2))), act(port(num(3)))}
		p.Nodes = []api.Node{do(0, 1), there(1, 2, 3), do(1, 7), there(2, 4, 5), do(2, 7), there(3, 6, 7), do(3, 7)}
		return p
	}
	own := ref(0, 0)
	b := func(first byte) []byte { return []byte{first, 1, 2, 3, 4, 5, 6, 7, 8} }
	rest := b(0)[1:]
	tryRuns(t, []run{
		{"the first one fits", by(own, to(1, 1, 1), to(2, 2, 2), to(4, 4, 3)), b(1), 0, out(1, rest...)},
		{"the second one fits", by(own, to(1, 1, 1), to(2, 2, 2), to(4, 4, 3)), b(2), 0, out(2, rest...)},
		{"the third one fits", by(own, to(1, 1, 1), to(2, 2, 2), to(4, 4, 3)), b(4), 0, out(3, rest...)},
		{"all fit: the first", by(own, to(1, 1, 3), to(2, 2, 2), to(4, 4, 1)), b(7), 0, out(3, rest...)},
		{"two fit: the first", by(own, to(1, 1, 1), to(2, 2, 2), to(4, 4, 3)), b(6), 0, out(2, rest...)},
		{"none fits", by(own, to(1, 1, 1), to(2, 2, 2), to(4, 4, 3)), b(8), 0, out(0, rest...)},
		{"without bits each fits", by(own, to(0, 0, 2)), b(77), 0, out(2, rest...)},
		{"the last of four", by(own, to(1, 3, 1), to(2, 3, 1), to(3, 3, 1), to(0, 3, 3)), b(4), 0, out(3, rest...)},
		{"bits that must be 0", by(own, to(0x80, 0xC0, 2)), b(0x80), 0, out(2, rest...)},
		{"bits that must be 0 and are not", by(own, to(0x80, 0xC0, 2)), b(0xC0), 0, out(0, rest...)},
		{"Meta is 0", by(ref(api.InMeta, 1), to(1, 1, 1), to(0, 1, 2)), b(255), 0xFFFF, out(2, rest...)},
		{"the port", by(inPort, to(5, 0xFFFF, 3)), b(0), 5, out(3, rest...)},
		{"the port, all of it", by(inPort, to(0x8000, 0xFF00, 1)), b(0), 0x80FF, out(1, rest...)},
		{"another port", by(inPort, to(5, 0xFFFF, 3)), b(0), 6, out(0, rest...)},
	})
	// a state may look at what another one took, at any of its fields.
	p := parsing(take(1, 1), look(0, ref(1, 1), api.Reject, to(0x234, 0xFFF, api.Accept)))
	tryRuns(t, []run{
		{"taken ahead", p, []byte{0x12, 0x34, 9, 8}, 0, out(0, 9, 0x12, 0x34, 8)},
		{"taken ahead, another number", p, []byte{0x12, 0x35, 9, 8}, 0, gone},
	})
	// without Cases what On is does not count.
	for _, r := range []api.Ref{ref(3, 0), ref(99, 0), ref(0, 99), ref(-9, -9), inArg, ref(math.MinInt, math.MaxInt)} {
		tryRuns(t, []run{{"no Cases", parsing(look(0, r, api.Accept)), []byte{1, 2}, 0, out(0, 1, 2)}})
	}
}

func TestNodes(t *testing.T) {
	x := ref(0, 0)
	// mark tells an action that writes its number behind what the header 0 has.
	mark := func(n uint64) api.Action {
		return act(set(x, get(x), num(4), step(api.PShl), num(n), step(api.POr)))
	}
	acts := []api.Action{mark(1), mark(2), mark(3)}
	lone := func(e ...api.Push) api.Plan { return yard(acts, check(1, 2, e...), do(0, 3), do(1, 3)) }
	ports := []api.Action{act(port(num(1))), act(port(num(2)))}
	has := func(head int) api.Plan { return yard(ports, there(head, 1, 2), do(0, 3), do(1, 3)) }
	tryRuns(t, []run{
		{"no nodes", yard(acts), []byte{4}, 0, out(0, 4)},
		{"one", yard(acts, do(0, 1)), []byte{4}, 0, out(0, 0x41)},
		{"the other", yard(acts, do(1, 1)), []byte{4}, 0, out(0, 0x42)},
		{"one behind the other", yard(acts, do(1, 1), do(2, 2)), []byte{4}, 0, out(0, 0x23)},
		{"past one", yard(acts, do(1, 2), do(2, 2), do(0, 3)), []byte{4}, 0, out(0, 0x21)},
		{"past all", yard(acts, do(1, 3), do(2, 2), do(0, 3)), []byte{4}, 0, out(0, 0x42)},
		{"No does not count", yard(acts, api.Node{Kind: api.NDo, N: 2, Yes: 2, No: 1}, do(0, 2)), []byte{4}, 0, out(0, 0x43)},
		{"if", lone(get(x)), []byte{4}, 0, out(0, 0x41)},
		{"if, 0", lone(get(x)), []byte{0}, 0, out(0, 2)},
		{"if, the highest bit", lone(num(1 << 63)), []byte{4}, 0, out(0, 0x41)},
		{"if, always 0", lone(num(0)), []byte{4}, 0, out(0, 0x42)},
		{"if, the port", lone(get(inPort), num(0xFFFF), step(api.PEq)), []byte{4}, 0xFFFF, out(0, 0x41)},
		{"if, another port", lone(get(inPort), num(0xFFFF), step(api.PEq)), []byte{4}, 0xFFFE, out(0, 0x42)},
		{"if, Meta", lone(get(inMeta), get(ref(api.InMeta, 1)), step(api.POr)), []byte{4}, 9, out(0, 0x42)},
		{"there", has(0), []byte{4}, 0, out(1, 4)},
		{"there, though it is 0", has(0), []byte{0}, 0, out(1, 0)},
		{"not there", has(1), []byte{4, 1, 2}, 0, out(2, 4, 1, 2)},
		{"there on this way", has(1), []byte{5, 1, 2}, 0, out(1, 5, 1, 2)},
		{"there on this way, all 0", has(1), []byte{5, 0, 0}, 0, out(1, 5, 0, 0)},
		{"never there", has(3), []byte{4}, 0, out(2, 4)},
		{"there since a deed", yard([]api.Action{act(on(3)), mark(7)}, do(0, 1), there(3, 2, 3), do(1, 3)), []byte{4}, 0, out(0, 0x47, 0, 0, 0, 0, 0, 0, 0, 0)},
		{"gone since a deed", yard([]api.Action{act(off(0), port(num(1))), act(port(num(2)))}, do(0, 1), there(0, 2, 3), do(1, 3)), []byte{4, 5}, 0, out(1, 5)},
		{"ten of them", yard([]api.Action{act(set(x, get(x), num(1), step(api.PAdd)))},
			do(0, 1), do(0, 2), do(0, 3), do(0, 4), do(0, 5), do(0, 6), do(0, 7), do(0, 8), do(0, 9), do(0, 10)), []byte{4}, 0, out(0, 14)},
	})
}

func TestDeeds(t *testing.T) {
	x, low, high := ref(0, 0), ref(1, 1), ref(1, 0)
	two, all := []byte{2, 9}, []byte{1, 0xAB, 0xCD, 9}
	tryRuns(t, []run{
		{"nothing", doing(), two, 0, out(0, 2, 9)},
		{"set", doing(set(x, num(77))), two, 0, out(0, 77, 9)},
		{"set, low bits", doing(set(x, num(0x1FE))), two, 0, out(0, 0xFE, 9)},
		{"set, all ones", doing(on(3), set(ref(3, 1), num(math.MaxUint64))), two, 0, out(0, 2, 0, 0, 0, 0, 0, 0, 0x80, 0, 9)},
		{"set, below 0", doing(set(x, num(1), num(2), step(api.PSub))), two, 0, out(0, 0xFF, 9)},
		{"set, in order", doing(set(x, get(x), num(1), step(api.PAdd)), set(x, get(x), get(x), step(api.PMul))), two, 0, out(0, 9, 9)},
		{"set Meta, low bits", doing(set(inMeta, num(0x1234)), set(x, get(inMeta))), two, 0, out(0, 4, 9)},
		{"set the other Meta", doing(set(ref(api.InMeta, 1), num(math.MaxUint64)), set(x, get(ref(api.InMeta, 1)), num(41), step(api.PShr)), port(get(inMeta))), two, 0, out(0, 0x7F, 9)},
		{"set by the port", doing(set(x, get(inPort), num(8), step(api.PShr))), two, 0xABCD, out(0, 0xAB, 9)},
		{"set one field alone", yard([]api.Action{act(set(high, num(7)))}, there(1, 1, 2), do(0, 2)), all, 0, out(0, 1, 0x7B, 0xCD, 9)},
		{"set the other field alone", yard([]api.Action{act(set(low, get(high)))}, there(1, 1, 2), do(0, 2)), all, 0, out(0, 1, 0xA0, 0x0A, 9)},
		{"on", doing(on(2)), two, 0, out(0, 2, 0, 0, 0, 0, 9)},
		{"on, there already", doing(on(1)), all, 0, out(0, 1, 0xAB, 0xCD, 9)},
		{"on, there on another way", doing(on(1)), two, 0, out(0, 2, 0, 0, 9)},
		{"on and set", doing(on(2), set(ref(2, 1), get(x))), two, 0, out(0, 2, 0, 0, 0, 2, 9)},
		{"on again", doing(on(2), set(ref(2, 1), get(x)), on(2)), two, 0, out(0, 2, 0, 0, 0, 2, 9)},
		{"off", doing(off(0)), two, 0, out(0, 9)},
		{"off, not there anyway", doing(off(3)), two, 0, out(0, 2, 9)},
		{"off the other one", doing(off(1)), all, 0, out(0, 1, 9)},
		{"off and on", doing(off(1), on(1)), all, 0, out(0, 1, 0, 0, 9)},
		{"off and on, then read", doing(off(0), on(0), port(get(x), num(5), step(api.PAdd))), two, 0, out(5, 0, 9)},
		{"on and off", doing(on(2), off(2)), two, 0, out(0, 2, 9)},
		{"set, off and on", doing(on(2), set(ref(2, 0), num(5)), off(2), on(2)), two, 0, out(0, 2, 0, 0, 0, 0, 9)},
		{"drop", doing(drop()), two, 0, gone},
		{"drop twice", doing(drop(), drop()), two, 0, gone},
		{"drop, then more", doing(drop(), set(x, num(1)), on(2)), two, 0, gone},
		{"drop behind a port", doing(port(num(5)), drop()), two, 0, gone},
		{"a port behind a drop", doing(drop(), port(num(5))), two, 0, gone},
		{"a port at another node behind a drop", yard([]api.Action{act(drop()), act(port(num(5)))}, do(0, 1), do(1, 2)), two, 0, gone},
		{"port", doing(port(num(5))), two, 3, out(5, 2, 9)},
		{"port, none said", doing(), two, 3, out(0, 2, 9)},
		{"port 0", doing(port(num(0))), two, 3, out(0, 2, 9)},
		{"port, the last one counts", doing(port(num(5)), port(num(6))), two, 3, out(6, 2, 9)},
		{"port, the greatest", doing(port(num(0xFFFF))), two, 3, out(0xFFFF, 2, 9)},
		{"port, low bits", doing(port(num(0x10000))), two, 3, out(0, 2, 9)},
		{"port, all ones", doing(port(num(math.MaxUint64))), two, 3, out(0xFFFF, 2, 9)},
		{"port, where it came in", doing(port(get(inPort))), two, 0xFFFF, out(0xFFFF, 2, 9)},
		{"port, by what is there then", doing(set(x, num(8)), port(get(x)), set(x, num(7))), two, 3, out(8, 7, 9)},
	})
}

func TestDeedsSum(t *testing.T) {
	x := ref(0, 0)
	// The header 2 is 0x1234 and 5.
	filled := func(l ...api.Op) api.Plan {
		return doing(append([]api.Op{on(2), set(ref(2, 0), num(0x1234)), set(ref(2, 1), num(5))}, l...)...)
	}
	whole, _ := pack.Sum(api.Header{W: []int{16, 16}}, []uint64{0x1234, 5}, -1) // 0xEDC6
	tryRuns(t, []run{
		{"into its first field", filled(total(ref(2, 0), 2)), []byte{2, 9}, 0, out(0, 2, 0xFF, 0xFA, 0, 5, 9)},
		{"into its other field", filled(total(ref(2, 1), 2)), []byte{2, 9}, 0, out(0, 2, 0x12, 0x34, 0xED, 0xCB, 9)},
		{"twice is once", filled(total(ref(2, 1), 2), total(ref(2, 1), 2)), []byte{2, 9}, 0, out(0, 2, 0x12, 0x34, 0xED, 0xCB, 9)},
		{"into both, one behind the other", filled(total(ref(2, 1), 2), total(ref(2, 0), 2)), []byte{2, 9}, 0, out(0, 2, 0x12, 0x34, 0xED, 0xCB, 9)},
		{"into another header, low bits", filled(total(x, 2)), []byte{2, 9}, 0, out(0, byte(whole), 0x12, 0x34, 0, 5, 9)},
		{"into a field of the same number elsewhere", filled(total(x, 2), off(2)), []byte{2, 9}, 0, out(0, 0xC6, 9)},
		{"into Meta, low bits", filled(total(inMeta, 2), port(get(inMeta))), []byte{2, 9}, 0, out(whole&0xF, 2, 0x12, 0x34, 0, 5, 9)},
		{"into Meta, all of it", filled(total(ref(api.InMeta, 1), 2), port(get(ref(api.InMeta, 1)))), []byte{2, 9}, 0, out(0xEDC6, 2, 0x12, 0x34, 0, 5, 9)},
		{"of a byte alone, into itself", doing(total(x, 0)), []byte{2, 9}, 0, out(0, 0xFF, 9)},
		{"of a byte alone, into a wide field", doing(on(3), total(ref(3, 0), 0)), []byte{2, 9}, 0, out(0, 2, 0, 0, 0, 0, 0xFD, 0xFF, 0, 0, 9)},
		{"into one bit", doing(on(3), total(ref(3, 1), 3)), []byte{2, 9}, 0, out(0, 2, 0, 0, 0, 0, 0, 0, 0x80, 0, 9)},
		{"into the last of three", doing(on(3), set(ref(3, 1), num(1)), total(ref(3, 2), 3)), []byte{2, 9}, 0, out(0, 2, 0, 0, 0, 0, 0, 0, 0xFF, 0xFF, 9)},
	})
}

// What goes out: of Out what is there, in its order, and then what was not taken.
func TestAtLast(t *testing.T) {
	going := func(p api.Plan, l ...int) api.Plan {
		p.Out = l
		return p
	}
	b := []byte{1, 0xAB, 0xCD, 9, 8}
	some := yard([]api.Action{act(on(2), set(ref(2, 0), num(0x0102)))}, do(0, 1))
	tryRuns(t, []run{
		{"in order", going(yard(nil), 0, 1), b, 0, out(0, 1, 0xAB, 0xCD, 9, 8)},
		{"in another order", going(yard(nil), 1, 0), b, 0, out(0, 0xAB, 0xCD, 1, 9, 8)},
		{"one alone", going(yard(nil), 1), b, 0, out(0, 0xAB, 0xCD, 9, 8)},
		{"none", going(yard(nil)), b, 0, out(0, 9, 8)},
		{"none, nothing left", going(yard(nil)), b[:3], 0, out(0)},
		{"what is not there", going(yard(nil), 3, 0, 2), b, 0, out(0, 1, 9, 8)},
		{"what is there by a deed", going(some, 3, 2, 1, 0), b, 0, out(0, 1, 2, 0, 0, 0xAB, 0xCD, 1, 9, 8)},
		{"off counts, its bytes are gone", going(doing(off(0), off(1)), 0, 1), b, 0, out(0, 9, 8)},
		{"all that is left", going(parsing(take(-1, api.Accept)), 0, 1, 2, 3), b, 0, out(0, b...)},
	})
}

func TestTables(t *testing.T) {
	x := ref(0, 0)
	acts := []api.Action{
		act(),
		with([]int{8, 16}, set(x, get(ref(api.InArg, 0))), port(get(ref(api.InArg, 1)))),
		act(drop()),
		with([]int{48}, on(3), set(ref(3, 0), get(inArg))),
	}
	p := yard(acts, ask(0, 1), ask(1, 2))
	p.Tabs = []api.Table{
		{Kind: api.KExact, Keys: []api.Ref{inPort, x}, Acts: []int{2, 1, 0, 3}, Cap: 4},
		{Kind: api.KPrefix, Keys: []api.Ref{x}, Acts: []int{0, 1}, Cap: 4, Def: 1, Args: []uint64{6, 7}},
	}
	q := piped(t, "tables", p)
	if len(q.Tabs) != 2 || q.Tabs[0].Len() != 0 || q.Tabs[1].Len() != 0 || len(q.Tabs[0].All()) != 0 {
		t.Fatalf("the tables are not empty: %v", q.Tabs)
	}
	if q.Tabs[0].Keys() != 2 || q.Tabs[1].Keys() != 1 || q.Tabs[1].Says().Act != 1 {
		t.Fatalf("other tables than the plan's: %v", q.Tabs)
	}
	done := func(code int) {
		t.Helper()
		if code != 0 {
			t.Fatalf("the table tells %d", code)
		}
	}
	tell(t, "empty", q, []byte{4, 9}, 5, out(7, 6, 9))
	done(q.Tabs[0].Add(api.Entry{Keys: []uint64{5, 4}, Act: 1, Args: []uint64{0x80, 300}}))
	tell(t, "by an entry", q, []byte{4, 9}, 5, out(7, 6, 9))
	done(q.Tabs[1].Default(api.Hit{Act: 0}))
	tell(t, "with another default", q, []byte{4, 9}, 5, out(300, 0x80, 9))
	tell(t, "by another port", q, []byte{4, 9}, 4, out(0, 4, 9))
	tell(t, "with another number", q, []byte{6, 9}, 5, out(0, 6, 9))
	done(q.Tabs[1].Add(api.Entry{Keys: []uint64{0x80}, Len: 1, Act: 1, Args: []uint64{2, 0xFFFF}}))
	tell(t, "the second is asked for what the first made", q, []byte{4, 9}, 5, out(0xFFFF, 2, 9))
	done(q.Tabs[0].Change(api.Entry{Keys: []uint64{5, 4}, Act: 2}))
	tell(t, "changed: dropped", q, []byte{4, 9}, 5, gone)
	done(q.Tabs[0].Change(api.Entry{Keys: []uint64{5, 4}, Act: 3, Args: []uint64{0x010203040506}}))
	tell(t, "changed again", q, []byte{4, 9}, 5, out(0, 4, 1, 2, 3, 4, 5, 6, 0, 0, 9))
	done(q.Tabs[0].Drop(api.Entry{Keys: []uint64{5, 4}}))
	tell(t, "no entry any more", q, []byte{4, 9}, 5, out(0, 4, 9))
	done(q.Tabs[0].Default(api.Hit{Act: 2}))
	tell(t, "all are dropped", q, []byte{4, 9}, 5, gone)
	other := piped(t, "another one", p)
	tell(t, "a Pipe has its own tables", other, []byte{4, 9}, 5, out(7, 6, 9))
}

// A table is asked as often as nodes ask it, each time for what its Keys have then.
func TestTableAskedTwice(t *testing.T) {
	x, more := ref(0, 0), ref(api.InMeta, 0)
	p := yard([]api.Action{with([]int{8}, set(x, get(inArg)), set(more, get(more), num(1), step(api.PAdd))), act()}, ask(0, 1), ask(0, 2), ask(0, 3))
	p.Tabs = []api.Table{{Kind: api.KTernary, Keys: []api.Ref{x, more}, Acts: []int{1, 0}, Def: 1, Cap: 16}}
	q := piped(t, "twice", p)
	for i, e := range []api.Entry{
		{Keys: []uint64{4, 0}, Masks: []uint64{0xFF, 0xF}, Args: []uint64{8}},
		{Keys: []uint64{8, 1}, Masks: []uint64{0xFF, 0xF}, Args: []uint64{4}},
		{Keys: []uint64{4, 2}, Masks: []uint64{4, 0xF}, Args: []uint64{100}, Prio: 2},
	} {
		if code := q.Tabs[0].Add(e); code != 0 {
			t.Fatalf("%d: Add tells %d", i, code)
		}
	}
	tell(t, "three entries", q, []byte{4, 9}, 0, out(0, 100, 9))
	tell(t, "none", q, []byte{8, 9}, 0, out(0, 8, 9))
}

// What was said counts for the action alone that it was said for.
func TestArgsOfEachAction(t *testing.T) {
	x := ref(0, 0)
	shift := []api.Push{get(x), num(4), step(api.PShl), get(inArg), step(api.POr)}
	p := yard([]api.Action{with([]int{4}, set(x, shift...)), act(set(x, get(x), num(1), step(api.PXor)))}, ask(0, 1), do(1, 2), ask(1, 3))
	p.Tabs = []api.Table{
		{Kind: api.KExact, Keys: []api.Ref{inPort}, Acts: []int{0}, Args: []uint64{6}},
		{Kind: api.KExact, Keys: []api.Ref{inPort}, Acts: []int{0}, Args: []uint64{9}},
	}
	tryRuns(t, []run{{"6, then 9", p, []byte{0}, 0, out(0, 0x79)}})
}

func TestExpressions(t *testing.T) {
	wide := ref(3, 0)
	// tells is what the low 48 bits of an expression are.
	type tells struct {
		name string
		e    []api.Push
		want uint64
	}
	for _, c := range []tells{
		{"a number", []api.Push{num(0x123456789ABC)}, 0x123456789ABC},
		{"a field", []api.Push{get(ref(0, 0))}, 0x52},
		{"the port", []api.Push{get(inPort)}, 0xFEDC},
		{"not", []api.Push{num(5), step(api.PNot)}, 0xFFFFFFFFFFFA},
		{"not, twice", []api.Push{num(5), step(api.PNot), step(api.PNot)}, 5},
		{"not, all 64 bits", []api.Push{num(0), step(api.PNot), num(60), step(api.PShr)}, 15},
		{"the lower one first", []api.Push{num(9), num(4), step(api.PSub)}, 5},
		{"shifted, the lower one first", []api.Push{num(9), num(4), step(api.PShl)}, 0x90},
		{"less, the lower one first", []api.Push{num(4), num(9), step(api.PLess)}, 1},
		{"less, the other way", []api.Push{num(9), num(4), step(api.PLess)}, 0},
		{"from the left", []api.Push{num(9), num(4), step(api.PSub), num(3), step(api.PSub)}, 2},
		{"from the right", []api.Push{num(9), num(4), num(3), step(api.PSub), step(api.PSub)}, 8},
		{"the two at the top", []api.Push{num(100), num(2), num(3), step(api.PMul), step(api.PSub)}, 94},
		{"the one at the top", []api.Push{num(100), num(2), step(api.PNot), step(api.PAdd)}, 97},
		{"what is above 48 bits counts in between", []api.Push{num(1 << 63), num(1), step(api.POr), num(63), step(api.PShr)}, 1},
		{"wrapped round at 64 bits", []api.Push{num(math.MaxUint64), num(3), step(api.PAdd)}, 2},
		{"eight steps", []api.Push{num(1), num(2), num(3), num(4), step(api.PAdd), step(api.PMul), step(api.PSub), step(api.PNot)}, 12},
		{"eight steps, by turns", []api.Push{num(1), num(2), num(3), step(api.PXor), num(7), step(api.PAnd), step(api.PEq), step(api.PNot)}, 0xFFFFFFFFFFFE},
		{"one number is used thrice", []api.Push{get(ref(0, 0)), get(ref(0, 0)), step(api.PMul), get(ref(0, 0)), step(api.PMul)}, 0x52 * 0x52 * 0x52},
	} {
		want := []byte{0x52}
		for shift := 40; shift >= 0; shift -= 8 {
			want = append(want, byte(c.want>>shift))
		}
		want = append(want, 0, 0)
		tryRuns(t, []run{{c.name, doing(on(3), set(wide, c.e...)), []byte{0x52}, 0xFEDC, out(0, want...)}})
	}
}

func TestApply(t *testing.T) {
	const all = math.MaxUint64
	for _, c := range []struct {
		name     string
		op       int
		a, b, is uint64
	}{
		{"add", api.PAdd, 2, 3, 5},
		{"add round", api.PAdd, all, 2, 1},
		{"sub", api.PSub, 5, 3, 2},
		{"sub round", api.PSub, 1, 2, all},
		{"mul", api.PMul, 6, 7, 42},
		{"mul round", api.PMul, 1<<63 + 3, 2, 6},
		{"mul all ones", api.PMul, all, all, 1},
		{"and", api.PAnd, 12, 10, 8},
		{"or", api.POr, 12, 10, 14},
		{"xor", api.PXor, 12, 10, 6},
		{"shl", api.PShl, 1, 63, 1 << 63},
		{"shl, none", api.PShl, 77, 0, 77},
		{"shl, what is above goes", api.PShl, all, 60, 15 << 60},
		{"shl, 64", api.PShl, all, 64, 0},
		{"shl, 65", api.PShl, all, 65, 0},
		{"shl, very far", api.PShl, all, 1 << 32, 0},
		{"shl, all ones", api.PShl, all, all, 0},
		{"shr", api.PShr, 8, 3, 1},
		{"shr, none", api.PShr, 77, 0, 77},
		{"shr, without a sign", api.PShr, all, 63, 1},
		{"shr, 64", api.PShr, all, 64, 0},
		{"shr, 128", api.PShr, all, 128, 0},
		{"shr, all ones", api.PShr, all, all, 0},
		{"less", api.PLess, 1, 2, 1},
		{"less, the same", api.PLess, 2, 2, 0},
		{"less, not", api.PLess, 3, 2, 0},
		{"less, without a sign", api.PLess, 1, all, 1},
		{"less, without a sign, not", api.PLess, 1 << 63, 1, 0},
		{"equal", api.PEq, all, all, 1},
		{"equal, not", api.PEq, all, all - 1, 0},
		{"equal, the low bits alone", api.PEq, 1, 1<<32 + 1, 0},
	} {
		if got := Apply(c.op, c.a, c.b); got != c.is {
			t.Errorf("%s: %#x, want %#x", c.name, got, c.is)
		}
	}
	for _, op := range []int{math.MinInt, -1, 0, api.PNum, api.PRef, api.PNot, 14, 99, 1<<32 + api.PAdd, math.MaxInt} {
		for _, v := range []uint64{0, 1, 7, all} {
			if got := Apply(op, v, v); got != 0 {
				t.Errorf("of the step %d: %#x", op, got)
			}
		}
	}
}

func TestNewFaults(t *testing.T) {
	gone := doing(set(ref(1, 0), num(1)))
	twice := parsing(take(0, 1), take(0, api.Accept))
	badOut := yard(nil)
	badOut.Out = []int{0, 0}
	badTable := yard(nil)
	badTable.Tabs = []api.Table{{Kind: api.KExact, Keys: []api.Ref{{}}, Acts: []int{0}}}
	for _, c := range []struct {
		name string
		p    api.Plan
		want api.Fault
	}{
		{"nothing", api.Plan{}, fault(api.ErrMany, -3)},
		{"a wrong header", api.Plan{Heads: []api.Header{{}}, States: []api.State{take(-1, api.Accept)}}, fault(api.ErrMany, 1000)},
		{"taken twice", twice, fault(api.ErrTwice, 3001)},
		{"may not be there", gone, fault(api.ErrGone, 6000)},
		{"a wrong table", badTable, fault(api.ErrRange, 5000)},
		{"out twice", badOut, fault(api.ErrTwice, 7001)},
	} {
		q, f := New(c.p)
		if f != c.want || q != nil {
			t.Errorf("%s: %v %v, want %v", c.name, q, f, c.want)
		}
		if f := flow.Check(c.p); f != c.want {
			t.Errorf("%s: flow.Check tells %v, want %v", c.name, f, c.want)
		}
	}
}

// Packets know nothing of each other.
func TestPacketsAlone(t *testing.T) {
	x := ref(0, 0)
	meta := ref(api.InMeta, 1)
	acts := []api.Action{
		act(set(inMeta, get(inMeta), num(1), step(api.PAdd)), set(meta, get(meta), get(x), step(api.PAdd)), on(2), set(ref(2, 0), get(meta))),
		with([]int{16}, port(get(inArg)), set(ref(2, 1), get(ref(2, 1)), get(inMeta), step(api.PAdd))),
		act(drop()),
	}
	p := yard(acts, do(0, 1), ask(0, 2))
	p.Tabs = []api.Table{{Kind: api.KExact, Keys: []api.Ref{x}, Acts: []int{1, 2}, Cap: 4, Def: 1, Args: []uint64{3}}}
	q := piped(t, "alone", p)
	q.Tabs[0].Add(api.Entry{Keys: []uint64{5}, Act: 2})
	packets := [][]byte{{4, 9}, {5, 1, 2, 3}, {7, 1, 2}, {7}, nil, {5, 1}, {200, 1, 1}}
	var first []api.Result
	for _, b := range packets {
		r, _ := q.Run(b, 9)
		first = append(first, r)
	}
	if !alike(first[0], out(3, 4, 0, 4, 0, 1, 9)) || !alike(first[1], gone) || !alike(first[4], gone) {
		t.Errorf("at first: %v", first)
	}
	before, says := q.Tabs[0].All(), q.Tabs[0].Says()
	for i := range packets {
		for j := range packets {
			q.Run(packets[j], 0xFFFF)
			tell(t, "behind another one", q, packets[i], 9, first[i])
			q.Run(packets[j], -1)
			q.Run(make([]byte, 601), 9)
			tell(t, "behind one with a fault", q, packets[i], 9, first[i])
		}
	}
	after := q.Tabs[0].All()
	if len(after) != 1 || !slices.Equal(after[0].Keys, before[0].Keys) || after[0].Act != before[0].Act || says.Act != 1 || !slices.Equal(q.Tabs[0].Says().Args, says.Args) {
		t.Errorf("packets changed a table: %v, then %v", before, after)
	}
}

// What is answered is new memory; what is handed in is neither changed nor kept, nor is what lies behind it.
func TestRunMemory(t *testing.T) {
	for name, p := range map[string]api.Plan{
		"as it came": parsing(take(-1, api.Accept)),
		"taken":      yard(nil),
		"more":       doing(on(3), set(ref(0, 0), num(255))),
	} {
		q := piped(t, name, p)
		behind := bytes.Repeat([]byte{0xEE}, 100)
		b := append(behind[:0], 2, 3, 4, 5)
		whole := slices.Clone(behind)
		first, _ := q.Run(b, 1)
		kept := slices.Clone(first.Bytes)
		if !bytes.Equal(behind, whole) {
			t.Errorf("%s: the packet was changed", name)
		}
		second, _ := q.Run(b, 1)
		for i := range second.Bytes {
			second.Bytes[i] = 0x77
		}
		_ = append(second.Bytes, 1, 2, 3)
		if !bytes.Equal(behind, whole) || !bytes.Equal(first.Bytes, kept) {
			t.Errorf("%s: an answer shares memory", name)
		}
		clear(behind)
		if !bytes.Equal(first.Bytes, kept) {
			t.Errorf("%s: an answer shares memory with the packet", name)
		}
	}
	// Of bytes behind the length no header is made.
	short := []byte{3, 0x12, 0x34, 5}[:2]
	tryRuns(t, []run{{"short", yard(nil), short, 0, gone}})
}

// What is done to a plan behind New counts for nothing.
func TestNewKeepsNothing(t *testing.T) {
	x := ref(0, 0)
	p := yard([]api.Action{with([]int{8}, set(x, get(inArg), num(1), step(api.PAdd))), act(drop())}, check(1, 1, get(x)), ask(0, 2))
	p.Tabs = []api.Table{{Kind: api.KExact, Keys: []api.Ref{x}, Acts: []int{0, 1}, Cap: 4, Args: []uint64{40}}}
	q := piped(t, "kept", p)
	p.Heads[0].W[0] = 99
	p.Meta[0] = 99
	p.States[0].Cases[0] = api.Case{To: api.Reject}
	p.States[1].Else = api.Reject
	p.Acts[0].W[0] = 1
	p.Acts[0].Ops[0].E[1].N = 9
	p.Acts[0].Ops[0].Kind = api.ODrop
	p.Tabs[0].Args[0] = 9
	p.Tabs[0].Keys[0] = ref(99, 99)
	p.Tabs[0].Acts[0] = 99
	p.Nodes[0].E[0] = api.Push{}
	p.Nodes[1].N = 99
	p.Out[0] = 99
	tell(t, "the plan as it was", q, []byte{3, 1, 2, 5}, 0, out(0, 41, 1, 2, 5))
}

// Tabs lie open: whatever is put there, a packet comes through.
func TestTabsOfAnyKind(t *testing.T) {
	x := ref(0, 0)
	p := yard([]api.Action{with([]int{8}, set(x, get(inArg))), act(drop()), act(port(num(8)))}, ask(0, 1), ask(1, 2))
	p.Tabs = []api.Table{
		{Kind: api.KExact, Keys: []api.Ref{x}, Acts: []int{0, 1}, Cap: 4, Args: []uint64{40}},
		{Kind: api.KExact, Keys: []api.Ref{x, inPort}, Acts: []int{2}, Def: 2, Cap: 4},
	}
	other := piped(t, "another one", p)
	if code := other.Tabs[0].Default(api.Hit{Act: 1}); code != 0 {
		t.Fatalf("Default tells %d", code)
	}
	made := func(acts []api.Action, def int, args ...uint64) *store.Store {
		s, f := store.New(api.Table{Kind: api.KPrefix, Acts: []int{def}, Def: def, Args: args}, []int{8}, acts)
		if f != right {
			t.Fatalf("store.New tells %v", f)
		}
		return s
	}
	far := made(make([]api.Action, 20), 19)
	none := made(make([]api.Action, 1), 0)
	same := made([]api.Action{with([]int{8})}, 0, 50)
	for _, c := range []struct {
		name string
		tabs []*store.Store
		want api.Result
	}{
		{"none", nil, out(8, 40, 9)},
		{"nil", []*store.Store{nil, nil}, out(8, 40, 9)},
		{"too few", other.Tabs[:1], gone},
		{"too many", append(slices.Clone(other.Tabs), nil, nil), gone},
		{"another one", other.Tabs, gone},
		{"no such action", []*store.Store{far, far}, out(8, 40, 9)},
		{"no such numbers", []*store.Store{none, none}, out(8, 40, 9)},
		{"what may be said", []*store.Store{same, nil}, out(8, 50, 9)},
		{"an action that this table has not", []*store.Store{nil, same}, out(8, 40, 9)},
		{"no object", []*store.Store{{}, {}}, out(8, 40, 9)},
	} {
		q := piped(t, c.name, p)
		q.Tabs = c.tabs
		tell(t, c.name, q, []byte{4, 9}, 0, c.want)
	}
}

// A list without elements is the same, nil or empty.
func TestEmptyLists(t *testing.T) {
	none := api.Plan{States: []api.State{take(-1, api.Accept)}}
	empty := api.Plan{
		Heads: []api.Header{}, Meta: []int{}, Acts: []api.Action{}, Tabs: []api.Table{}, Nodes: []api.Node{}, Out: []int{},
		States: []api.State{{Head: -1, Cases: []api.Case{}, Else: api.Accept}},
	}
	bare := yard([]api.Action{{W: []int{}, Ops: []api.Op{}}}, api.Node{Kind: api.NDo, E: []api.Push{}, Yes: 1})
	tryRuns(t, []run{
		{"nil", none, []byte{1, 2}, 5, out(0, 1, 2)},
		{"empty", empty, []byte{1, 2}, 5, out(0, 1, 2)},
		{"nil, nothing", none, nil, 5, out(0)},
		{"empty, nothing", empty, []byte{}, 5, out(0)},
		{"an action without anything", bare, []byte{2, 1}, 5, out(0, 2, 1)},
	})
	if q := piped(t, "no tables", empty); len(q.Tabs) != 0 {
		t.Errorf("tables of none: %v", q.Tabs)
	}
}
