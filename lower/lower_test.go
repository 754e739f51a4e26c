package lower_test

import (
	"bytes"
	"math"
	"slices"
	"testing"

	"shuntyard/api"
	"shuntyard/guard"
	"shuntyard/lower"
	"shuntyard/pipe"
	"shuntyard/vm"
)

func fault(code, at int) api.Fault { return api.Fault{Code: code, At: at} }

var right = fault(0, 0)

func ref(h, f int) api.Ref { return api.Ref{H: h, F: f} }

var (
	inMeta = ref(api.InMeta, 0)
	inArg  = ref(api.InArg, 0)
	inPort = ref(api.InPort, 0)
)

// num, get and step tell steps of an expression.
func num(n uint64) api.Push  { return api.Push{Op: api.PNum, N: n} }
func get(r api.Ref) api.Push { return api.Push{Op: api.PRef, R: r} }
func step(op int) api.Push   { return api.Push{Op: op} }

func set(r api.Ref, e ...api.Push) api.Op { return api.Op{Kind: api.OSet, R: r, E: e} }
func on(head int) api.Op                  { return api.Op{Kind: api.OOn, Head: head} }
func off(head int) api.Op                 { return api.Op{Kind: api.OOff, Head: head} }
func drop() api.Op                        { return api.Op{Kind: api.ODrop} }
func port(e ...api.Push) api.Op           { return api.Op{Kind: api.OPort, E: e} }
func total(r api.Ref, head int) api.Op    { return api.Op{Kind: api.OSum, R: r, Head: head} }

// act tells an action without parameters, with one that has some.
func act(l ...api.Op) api.Action           { return api.Action{Ops: l} }
func with(w []int, l ...api.Op) api.Action { return api.Action{W: w, Ops: l} }

func ask(n, yes int) api.Node       { return api.Node{Kind: api.NTable, N: n, Yes: yes} }
func do(n, yes int) api.Node        { return api.Node{Kind: api.NDo, N: n, Yes: yes} }
func there(n, yes, no int) api.Node { return api.Node{Kind: api.NThere, N: n, Yes: yes, No: no} }
func check(yes, no int, e ...api.Push) api.Node {
	return api.Node{Kind: api.NIf, E: e, Yes: yes, No: no}
}

// take tells a state that takes a header, and leads to one place alone; look one that looks at a field then.
func take(head, to int) api.State { return api.State{Head: head, Else: to} }
func look(head int, r api.Ref, other int, l ...api.Case) api.State {
	return api.State{Head: head, On: r, Cases: l, Else: other}
}
func when(value, mask uint64, to int) api.Case { return api.Case{Value: value, Mask: mask, To: to} }

// yard tells a plan of five headers (of 1, 2, 3, 4 and 32 bytes) whose parser takes the header 0, and 1 behind it if 0's lowest bit is 1; all that is there goes out in order.
func yard(acts []api.Action, nodes ...api.Node) api.Plan {
	return api.Plan{
		Heads: []api.Header{
			{W: []int{8}},
			{W: []int{4, 12}},
			{W: []int{8, 16}},
			{W: []int{1, 14, 17}},
			{W: []int{7, 48, 1, 48, 48, 48, 48, 8}},
		},
		Meta: []int{4, 48},
		States: []api.State{
			look(0, ref(0, 0), api.Accept, when(1, 1, 1)),
			take(1, api.Accept),
		},
		Acts:  acts,
		Nodes: nodes,
		Out:   []int{0, 1, 2, 3, 4},
	}
}

// doing tells a yard whose one node does those deeds.
func doing(l ...api.Op) api.Plan {
	return yard([]api.Action{act(l...)}, do(0, 1))
}

// parsing tells a plan like the yard, without nodes, that has those states.
func parsing(l ...api.State) api.Plan {
	p := yard(nil)
	p.States = l
	return p
}

// out tells what goes out by a port, gone what goes nowhere.
func out(port int, b ...byte) api.Result { return api.Result{Port: port, Bytes: b} }

var gone = api.Result{Port: -1}

func alike(a, b api.Result) bool { return a.Port == b.Port && bytes.Equal(a.Bytes, b.Bytes) }

// both is a plan that is run in both ways, with the same tables.
type both struct {
	*testing.T
	name    string
	q       *pipe.Pipe
	program api.Program
}

// lowered tells both ways of a plan that there is nothing wrong with.
func lowered(t *testing.T, name string, p api.Plan) both {
	t.Helper()
	q, f := pipe.New(p)
	if f != right {
		t.Fatalf("%s: no plan: %v", name, f)
	}
	m, f := lower.Lower(p)
	if f != right {
		t.Fatalf("%s: Lower tells %v", name, f)
	}
	if f := guard.Check(m); f != right {
		t.Fatalf("%s: the guard tells %v", name, f)
	}
	if l := lower.Shapes(p); !slices.Equal(m.Tabs, l) || len(l) != len(p.Tabs) {
		t.Fatalf("%s: the tables %v, the Shapes %v", name, m.Tabs, l)
	}
	return both{t, name, q, m}
}

// run tells what the program makes of a packet.
func (b both) run(packet []byte, port int) api.Result {
	b.Helper()
	got, done, f := vm.Run(b.program, b.q.Tabs, packet, port)
	if f != right || done < 1 || done > len(b.program.Code) {
		b.Fatalf("%s: %v by %d: %v after %d of %d instructions", b.name, packet, port, f, done, len(b.program.Code))
	}
	return got
}

// want asks for what becomes of a packet, in both ways.
func (b both) want(want api.Result, port int, packet ...byte) {
	b.Helper()
	if got := b.run(packet, port); !alike(got, want) {
		b.Errorf("%s: %v by %d: %v, want %v", b.name, packet, port, got, want)
	}
	if plain, _ := b.q.Run(packet, port); !alike(plain, want) {
		b.Errorf("%s: %v by %d, by the plan itself: %v, want %v", b.name, packet, port, plain, want)
	}
}

// sent is a packet, by the port 3, and what is to become of it.
type sent struct {
	name string
	p    api.Plan
	b    []byte
	want api.Result
}

func tryAll(t *testing.T, l []sent) {
	t.Helper()
	for _, c := range l {
		lowered(t, c.name, c.p).want(c.want, 3, c.b...)
	}
}

func TestExample(t *testing.T) {
	x := ref(0, 0)
	p := yard([]api.Action{with([]int{8}, set(x, get(x), get(inArg), step(api.PAdd)))}, ask(0, 1))
	p.States = []api.State{take(0, api.Accept)}
	p.Tabs = []api.Table{{Kind: api.KExact, Keys: []api.Ref{x}, Acts: []int{0}, Cap: 4, Args: []uint64{1}}}
	b := lowered(t, "example", p)
	b.want(out(0, 8, 9), 3, 7, 9)
	b.want(gone, 3)
	b.q.Tabs[0].Add(api.Entry{Keys: []uint64{7}, Args: []uint64{255}})
	b.want(out(0, 6, 9), 3, 7, 9)
	b.want(out(0, 9), 3, 8)
}

func TestParsing(t *testing.T) {
	none := parsing(look(-1, inPort, api.Accept))
	tryAll(t, []sent{
		{"no header", none, []byte{1, 2}, out(0, 1, 2)},
		{"no header, no packet", none, nil, out(0)},
		{"just one", yard(nil), []byte{2}, out(0, 2)},
		{"nothing there", yard(nil), nil, gone},
		{"what is left", yard(nil), []byte{2, 3, 4}, out(0, 2, 3, 4)},
		{"two", yard(nil), []byte{1, 3, 4}, out(0, 1, 3, 4)},
		{"two, and what is left", yard(nil), []byte{1, 3, 4, 5}, out(0, 1, 3, 4, 5)},
		{"the second is short", yard(nil), []byte{1, 3}, gone},
		{"the second is missing", yard(nil), []byte{1}, gone},
		{"refused", parsing(take(0, api.Reject)), []byte{1}, gone},
		{"refused at once", parsing(look(-1, inPort, api.Reject)), []byte{1}, gone},
		{"over a state", parsing(take(0, 2), take(1, api.Reject), take(2, api.Accept)), []byte{1, 2, 3, 4, 5}, out(0, 1, 2, 3, 4, 5)},
		{"a state that nothing leads to", parsing(take(0, api.Accept), take(0, api.Reject)), []byte{1}, out(0, 1)},
		{"behind a state without a header", parsing(take(0, 1), look(-1, inPort, 2), take(1, api.Accept)), []byte{1, 2}, gone},
		{"On without Cases", parsing(api.State{Head: 0, On: ref(77, -5), Else: api.Accept}), []byte{1}, out(0, 1)},
	})
}

// Each header goes out where Out says, so that what was taken first may go out last.
func TestParsingMovesOn(t *testing.T) {
	p := parsing(take(0, 1), take(2, 2), take(1, 3), take(3, api.Accept))
	p.Out = []int{3, 1, 2, 0}
	b := lowered(t, "moves on", p)
	b.want(out(0, 7, 8, 9, 10, 5, 6, 2, 3, 4, 1, 11, 12), 3, 1, 2, 3, 4, 5, 6, 7, 8, 9, 10, 11, 12)
	b.want(out(0, 7, 8, 9, 10, 5, 6, 2, 3, 4, 1), 3, 1, 2, 3, 4, 5, 6, 7, 8, 9, 10)
	for n := range 10 {
		b.want(gone, 3, []byte{1, 2, 3, 4, 5, 6, 7, 8, 9}[:n]...)
	}
}

func TestParsingCases(t *testing.T) {
	byPort := parsing(look(-1, inPort, api.Reject, when(3, 0xFFFF, api.Accept)))
	b := lowered(t, "by the port", byPort)
	b.want(out(0, 9), 3, 9)
	b.want(gone, 4, 9)
	b.want(gone, 0xFF03, 9)
	first := parsing(look(0, ref(0, 0), api.Accept, when(0x10, 0xF0, 1), when(0x11, 0xFF, api.Reject), when(0x20, 0x20, 1)), take(1, api.Accept))
	first.Out = []int{1, 0}
	tryAll(t, []sent{
		{"the first that fits", first, []byte{0x11, 1, 2}, out(0, 1, 2, 0x11)},
		{"the last", first, []byte{0x2F, 1, 2}, out(0, 1, 2, 0x2F)},
		{"a case that is short", first, []byte{0x2F, 1}, gone},
		{"none", first, []byte{0x0F, 1, 2}, out(0, 0x0F, 1, 2)},
		{"without a mask", parsing(look(0, ref(0, 0), api.Reject, when(0, 0, api.Accept))), []byte{9}, out(0, 9)},
		{"Meta is 0", parsing(look(0, ref(-1, 1), api.Reject, when(0, 1<<48-1, api.Accept))), []byte{9}, out(0, 9)},
		{"Meta is not 1", parsing(look(0, ref(-1, 1), api.Reject, when(1, 1, api.Accept))), []byte{9}, gone},
		{"within a byte", parsing(look(1, ref(1, 0), api.Reject, when(0xA, 0xF, api.Accept))), []byte{0xA5, 7}, out(0, 0xA5, 7)},
		{"over bytes", parsing(look(1, ref(1, 1), api.Reject, when(0x507, 0xFFF, api.Accept))), []byte{0xA5, 7}, out(0, 0xA5, 7)},
		{"of a header ahead", parsing(take(0, 1), look(1, ref(0, 0), api.Reject, when(4, 4, api.Accept))), []byte{5, 6, 7}, out(0, 5, 6, 7)},
		{"of a header ahead, not", parsing(take(0, 1), look(1, ref(0, 0), api.Reject, when(4, 4, api.Accept))), []byte{1, 6, 7}, gone},
		{"case to where Else leads", parsing(look(0, ref(0, 0), 1, when(1, 1, 1)), take(1, api.Accept)), []byte{1, 2}, gone},
	})
}

// wide tells 32 bytes for the header 4 of the yard, whose fields have all ones and only zeros by turns, or the other way.
func wide(turn byte) []byte {
	b := []byte{0xFE, 0, 0, 0, 0, 0, 1}
	for i := range 4 {
		for range 6 {
			b = append(b, []byte{0, 0xFF}[i%2])
		}
	}
	b = append(b, 0xFF)
	for i := range b {
		b[i] ^= turn
	}
	return b
}

// Each field of a header is read where it stands, and goes out there.
func TestFields(t *testing.T) {
	for _, turn := range []byte{0, 0xFF} {
		p := parsing(take(4, api.Accept))
		b := append(wide(turn), 1, 2, 3)
		lowered(t, "there and back", p).want(out(0, b...), 3, b...)
		lowered(t, "one is missing", p).want(gone, 3, b[:31]...)
		for f, w := range p.Heads[4].W {
			q := p
			q.Acts = []api.Action{act(port(get(ref(4, f)), num(uint64(max(0, w-16))), step(api.PShr)))}
			q.Nodes = []api.Node{do(0, 1)}
			ones := int(turn&1) ^ []int{1, 0, 1, 0, 1, 0, 1, 1}[f]
			lowered(t, "a field", q).want(out(ones*(1<<min(16, w)-1), b...), 3, b...)
		}
	}
}

func TestFieldsAreSetAlone(t *testing.T) {
	p := parsing(take(4, api.Accept))
	for f := range p.Heads[4].W {
		for _, turn := range []byte{0, 0xFF} {
			p.Acts = []api.Action{act(set(ref(4, f), get(ref(4, f)), step(api.PNot)))}
			p.Nodes = []api.Node{do(0, 1)}
			b := bytes.Repeat([]byte{turn}, 32)
			at := 0
			for _, w := range p.Heads[4].W[:f] {
				at += w
			}
			turned := slices.Clone(b)
			for i := at; i < at+p.Heads[4].W[f]; i++ {
				turned[i/8] ^= 0x80 >> (i % 8)
			}
			lowered(t, "set alone", p).want(out(0, turned...), 3, b...)
		}
	}
}

func TestNodes(t *testing.T) {
	mark := func(n uint64) api.Action { return act(port(num(n))) }
	acts := []api.Action{mark(10), mark(20), act(off(1)), act(on(1))}
	one := []byte{1, 3, 4}
	tryAll(t, []sent{
		{"none", yard(acts), one, out(0, one...)},
		{"one", yard(acts, do(0, 1)), one, out(10, one...)},
		{"one behind the other", yard(acts, do(0, 1), do(1, 2)), one, out(20, one...)},
		{"over one", yard(acts, do(0, 2), do(1, 2)), one, out(10, one...)},
		{"if it is not 0", yard(acts, check(1, 2, num(1<<63)), do(0, 3), do(1, 3)), one, out(10, one...)},
		{"if it is 0", yard(acts, check(1, 2, num(0)), do(0, 3), do(1, 3)), one, out(20, one...)},
		{"if, by a field", yard(acts, check(1, 2, get(ref(0, 0)), num(2), step(api.PAnd)), do(0, 3), do(1, 3)), []byte{2}, out(10, 2)},
		{"if, to the end", yard(acts, check(2, 1, num(1)), do(0, 2)), one, out(0, one...)},
		{"there", yard(acts, there(1, 1, 2), do(0, 3), do(1, 3)), one, out(10, one...)},
		{"not there", yard(acts, there(1, 1, 2), do(0, 3), do(1, 3)), []byte{2, 3, 4}, out(20, 2, 3, 4)},
		{"there no more", yard(acts, do(2, 1), there(1, 2, 3), do(0, 4), do(1, 4)), one, out(20, 1)},
		{"there now", yard(acts, do(3, 1), there(1, 2, 3), do(0, 4), do(1, 4)), []byte{2}, out(10, 2, 0, 0)},
		{"both to one", yard(acts, there(1, 1, 1), do(0, 2)), []byte{2}, out(10, 2)},
		{"a node that nothing leads to", yard(acts, do(0, 2), do(1, 2)), []byte{2}, out(10, 2)},
		{"what a node has not", yard(acts, api.Node{Kind: api.NDo, No: -9, Yes: 1, E: []api.Push{{Op: 99}}}), []byte{2}, out(10, 2)},
	})
}

func TestDeeds(t *testing.T) {
	x, y := ref(0, 0), ref(1, 1)
	tryAll(t, []sent{
		{"no deed", doing(), []byte{2}, out(0, 2)},
		{"set", doing(set(x, num(5))), []byte{2, 7}, out(0, 5, 7)},
		{"set to low bits", doing(set(x, num(0xF05))), []byte{2}, out(0, 5)},
		{"set Meta to low bits", doing(set(inMeta, num(0x15)), port(get(inMeta))), []byte{2}, out(5, 2)},
		{"set the other Meta", doing(set(ref(-1, 1), num(math.MaxUint64)), port(get(ref(-1, 1)), num(40), step(api.PShr))), []byte{2}, out(0xFF, 2)},
		{"Meta is 0 at first", doing(port(get(ref(-1, 1)), num(1), step(api.PEq))), []byte{2}, out(0, 2)},
		{"set one by the other", doing(set(inMeta, num(3)), set(x, get(inMeta), num(1), step(api.PAdd))), []byte{2}, out(0, 4)},
		{"on", doing(on(1), set(y, num(0xABC))), []byte{2, 7}, out(0, 2, 0x0A, 0xBC, 7)},
		{"on, of what is there", doing(on(1)), []byte{1, 7, 8}, out(0, 1, 7, 8)},
		{"off", doing(off(1)), []byte{1, 7, 8, 9}, out(0, 1, 9)},
		{"off, of what is not there", doing(off(1)), []byte{2, 7}, out(0, 2, 7)},
		{"off and on", doing(off(1), on(1)), []byte{1, 7, 8, 9}, out(0, 1, 0, 0, 9)},
		{"on, set, off and on", doing(on(3), set(ref(3, 2), num(5)), off(3), on(3)), []byte{2}, out(0, 2, 0, 0, 0, 0)},
		{"off all", doing(off(0), off(1)), []byte{1, 7, 8, 9}, out(0, 9)},
		{"drop", doing(drop()), []byte{2}, gone},
		{"drop, and then a port", doing(drop(), port(num(5))), []byte{2}, gone},
		{"a port, and then drop", doing(port(num(5)), drop()), []byte{2}, gone},
		{"port", doing(port(num(5))), []byte{2}, out(5, 2)},
		{"the last port", doing(port(num(5)), port(num(6))), []byte{2}, out(6, 2)},
		{"the port's low bits", doing(port(num(0x1234FFFE))), []byte{2}, out(0xFFFE, 2)},
		{"the greatest port", doing(port(num(math.MaxUint64))), []byte{2}, out(0xFFFF, 2)},
		{"where it came in", doing(port(get(inPort), num(1), step(api.PAdd))), []byte{2}, out(4, 2)},
		{"what a deed has not", doing(api.Op{Kind: api.ODrop, R: ref(55, 5), Head: 99}), []byte{2}, gone},
	})
}

// A packet that is dropped on one way alone goes out on the other.
func TestDropOnOneWay(t *testing.T) {
	p := yard([]api.Action{act(drop()), act(port(num(5)))}, there(1, 1, 2), do(0, 2), do(1, 3))
	b := lowered(t, "drop", p)
	b.want(gone, 3, 1, 2, 3)
	b.want(out(5, 2, 2, 3), 3, 2, 2, 3)
}

func TestSums(t *testing.T) {
	taking := func(head int, l ...api.Op) api.Plan {
		p := doing(l...)
		p.States = []api.State{take(head, api.Accept)}
		return p
	}
	ipv4 := taking(0, total(ref(0, 4), 0))
	ipv4.Heads = []api.Header{{W: []int{16, 16, 32, 16, 16, 32, 32}}}
	ipv4.Out = []int{0}
	came := []byte{0x45, 0, 0, 0x73, 0, 0, 0x40, 0, 0x40, 0x11, 0x12, 0x34, 0xC0, 0xA8, 0, 1, 0xC0, 0xA8, 0, 0xC7}
	goes := slices.Clone(came)
	goes[10], goes[11] = 0xB8, 0x61
	zero := make([]byte, 32)
	tryAll(t, []sent{
		{"as it is often done", ipv4, came, out(0, goes...)},
		{"odd bytes", taking(2, total(ref(-1, 1), 2), port(get(ref(-1, 1)))), []byte{0x12, 0x34, 0x56}, out(0xFFFF-0x1234-0x5600, 0x12, 0x34, 0x56)},
		{"of itself, not on words", taking(2, total(ref(2, 1), 2)), []byte{0x12, 0x34, 0x56}, out(0, 0x12, 0xED, 0xFF)},
		{"one byte", taking(0, total(inMeta, 0), port(get(inMeta))), []byte{0x0F}, out(0xF, 0x0F)},
		{"one byte of itself", taking(0, total(ref(0, 0), 0)), []byte{0x12}, out(0, 0xFF)},
		{"low bits", taking(1, total(ref(1, 0), 1)), []byte{0xA1, 0x23}, out(0, 0xC1, 0x23)},
		{"into a wider one", taking(3, total(ref(3, 2), 3), port(get(ref(3, 2)), num(1), step(api.PShr))), []byte{0x80, 2, 1, 1}, out(0x3FFE, 0x80, 2, 0x7F, 0xFD)},
		{"over 0xFFFF", taking(3, total(ref(-1, 1), 3), port(get(ref(-1, 1)))), []byte{0xFF, 0xFF, 0, 1}, out(0xFFFE, 0xFF, 0xFF, 0, 1)},
		{"just 0xFFFF", taking(3, total(ref(-1, 1), 3), port(get(ref(-1, 1)))), []byte{0xFF, 0xFF, 0xFF, 0xFF}, out(0, 0xFF, 0xFF, 0xFF, 0xFF)},
		{"all 0", taking(4, total(ref(-1, 1), 4), port(get(ref(-1, 1)))), zero, out(0xFFFF, zero...)},
		{"all ones", taking(4, total(ref(-1, 1), 4), port(get(ref(-1, 1)))), bytes.Repeat([]byte{0xFF}, 32), out(0, bytes.Repeat([]byte{0xFF}, 32)...)},
		{"of what was set", taking(1, set(ref(1, 1), num(0x234)), total(ref(-1, 1), 1), port(get(ref(-1, 1)))), []byte{0x10, 0}, out(0xFFFF-0x1234, 0x12, 0x34)},
		{"the same field of another header", yard([]api.Action{act(total(ref(0, 0), 1))}, there(1, 1, 2), do(0, 2)), []byte{1, 0x12, 0x34}, out(0, 0xCB, 0x12, 0x34)},
	})
}

// Each field adds what it has of each word.
func TestSumOfEachBit(t *testing.T) {
	p := doing(total(ref(-1, 1), 4), port(get(ref(-1, 1))))
	p.States = []api.State{take(4, api.Accept)}
	b := lowered(t, "bits", p)
	for i := range 256 {
		packet := make([]byte, 32)
		packet[i/8] = 0x80 >> (i % 8)
		b.want(out(0xFFFF-0x8000>>(i%16), packet...), 3, packet...)
	}
}

func TestExpressions(t *testing.T) {
	x := ref(0, 0)
	bin := func(a uint64, op int, b uint64) []api.Push { return []api.Push{num(a), num(b), step(op)} }
	const most = math.MaxUint64
	for _, c := range []struct {
		name string
		e    []api.Push
		want uint64
	}{
		{"a number", []api.Push{num(most)}, most},
		{"a field", []api.Push{get(x)}, 6},
		{"the port", []api.Push{get(inPort)}, 3},
		{"add", bin(5, api.PAdd, 7), 12},
		{"add wraps", bin(most, api.PAdd, 7), 6},
		{"less", bin(7, api.PSub, 5), 2},
		{"less wraps", bin(5, api.PSub, 7), most - 1},
		{"times", bin(5, api.PMul, 7), 35},
		{"times wraps", bin(1<<63|3, api.PMul, 2), 6},
		{"and", bin(12, api.PAnd, 10), 8},
		{"or", bin(12, api.POr, 10), 14},
		{"xor", bin(12, api.PXor, 10), 6},
		{"up", bin(5, api.PShl, 2), 20},
		{"up by 63", bin(5, api.PShl, 63), 1 << 63},
		{"up by 64", bin(5, api.PShl, 64), 0},
		{"up by many", bin(5, api.PShl, 1<<32), 0},
		{"down", bin(20, api.PShr, 2), 5},
		{"down by 63", bin(most, api.PShr, 63), 1},
		{"down by 64", bin(most, api.PShr, 64), 0},
		{"below", bin(5, api.PLess, 7), 1},
		{"not below", bin(7, api.PLess, 5), 0},
		{"below, without a sign", bin(5, api.PLess, 1<<63), 1},
		{"the same is not below", bin(5, api.PLess, 5), 0},
		{"the same", bin(5, api.PEq, 5), 1},
		{"not the same", bin(5, api.PEq, 7), 0},
		{"not", []api.Push{num(5), step(api.PNot)}, most - 5},
		{"not of the upper one", []api.Push{num(5), num(0), step(api.PNot), step(api.PSub)}, 6},
		{"four at once", []api.Push{num(100), num(50), num(7), num(2), step(api.PSub), step(api.PSub), step(api.PSub)}, 55},
		{"four, and one more step", []api.Push{num(9), get(x), get(inPort), num(1), step(api.PSub), step(api.PMul), step(api.PSub), step(api.PNot)}, 2},
		{"two by two", []api.Push{num(100), num(50), step(api.PSub), num(7), num(2), step(api.PSub), step(api.PMul)}, 250},
		{"one by one", []api.Push{num(100), num(50), step(api.PSub), num(7), step(api.PSub), num(2), step(api.PSub)}, 41},
		{"eight steps", []api.Push{num(1), step(api.PNot), step(api.PNot), step(api.PNot), step(api.PNot), step(api.PNot), step(api.PNot), step(api.PNot)}, most - 1},
	} {
		lowered(t, c.name, doing(port(c.e...))).want(out(int(c.want&0xFFFF), 6), 3, 6)
		if down := append(slices.Clone(c.e), num(48), step(api.PShr)); len(down) <= api.MaxTree {
			lowered(t, c.name+", the upper end", doing(port(down...))).want(out(int(c.want>>48), 6), 3, 6)
		}
		is := yard([]api.Action{act(port(num(1)))}, check(1, 2, c.e...), do(0, 2))
		want := 0
		if c.want != 0 {
			want = 1
		}
		lowered(t, c.name+", if", is).want(out(want, 6), 3, 6)
	}
}
