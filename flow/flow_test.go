package flow

import (
	"math"
	"slices"
	"testing"

	"shuntyard/api"
	"shuntyard/plan"
	"shuntyard/walk"
)

func fault(code, at int) api.Fault { return api.Fault{Code: code, At: at} }

// gone tells the fault of a node that reads what may not be there.
func gone(node int) api.Fault { return fault(api.ErrGone, 6000+node) }

var right = fault(0, 0)

// none is what is told where no way comes.
const none = 0xFFFFFFFFFFFFFFFF

func ref(h, f int) api.Ref { return api.Ref{H: h, F: f} }

var (
	inMeta = ref(api.InMeta, 0)
	inArg  = ref(api.InArg, 0)
	inPort = ref(api.InPort, 0)
)

// of tells an expression that names each of those fields, and a number at last.
func of(l ...api.Ref) []api.Push {
	e := []api.Push{{Op: api.PNum, N: 1}}
	for _, r := range l {
		e = append([]api.Push{{Op: api.PRef, R: r}}, e...)
		e = append(e, api.Push{Op: api.PAdd})
	}
	return e
}

func set(r api.Ref, from ...api.Ref) api.Op { return api.Op{Kind: api.OSet, R: r, E: of(from...)} }
func on(head int) api.Op                    { return api.Op{Kind: api.OOn, Head: head} }
func off(head int) api.Op                   { return api.Op{Kind: api.OOff, Head: head} }
func drop() api.Op                          { return api.Op{Kind: api.ODrop} }
func port(from ...api.Ref) api.Op           { return api.Op{Kind: api.OPort, E: of(from...)} }
func total(r api.Ref, head int) api.Op      { return api.Op{Kind: api.OSum, R: r, Head: head} }

// act tells an action without parameters, act8 one with a parameter.
func act(l ...api.Op) api.Action  { return api.Action{Ops: l} }
func act8(l ...api.Op) api.Action { return api.Action{W: []int{8}, Ops: l} }

// tab tells a table of those actions, the first of which is done where nothing fits; it looks at keys.
func tab(acts []int, keys ...api.Ref) api.Table {
	return api.Table{Kind: api.KExact, Keys: keys, Acts: acts, Def: acts[0], Cap: 4}
}

func ask(n, yes int) api.Node       { return api.Node{Kind: api.NTable, N: n, Yes: yes} }
func do(n, yes int) api.Node        { return api.Node{Kind: api.NDo, N: n, Yes: yes} }
func there(n, yes, no int) api.Node { return api.Node{Kind: api.NThere, N: n, Yes: yes, No: no} }

// check tells a node that looks at fields.
func check(yes, no int, l ...api.Ref) api.Node {
	return api.Node{Kind: api.NIf, E: of(l...), Yes: yes, No: no}
}

// yard tells a plan of six headers whose parser takes the header 0 on all ways, 1 on some way, and the others on none.
func yard(nodes ...api.Node) api.Plan {
	return api.Plan{
		Heads: []api.Header{
			{W: []int{8}},
			{W: []int{4, 12}},
			{W: []int{32}},
			{W: []int{48, 8, 8}},
			{W: []int{16, 16}},
			{W: []int{32, 32, 32, 32, 32, 32, 32, 32}},
		},
		Meta: []int{4, 48},
		States: []api.State{
			{Head: 0, Cases: []api.Case{{Value: 1, Mask: 1, To: 1}}, Else: api.Accept},
			{Head: 1, Else: api.Accept},
		},
		Nodes: nodes,
	}
}

// with tells the plan with those actions, then tables.
func with(p api.Plan, acts []api.Action, tabs ...api.Table) api.Plan {
	p.Acts, p.Tabs = acts, tabs
	return p
}

// doing tells a plan whose one node does those deeds.
func doing(l ...api.Op) api.Plan {
	return with(yard(do(0, 1)), []api.Action{act(l...)})
}

// parsed tells the plan with a parser of those states.
func parsed(p api.Plan, l ...api.State) api.Plan {
	p.States = l
	return p
}

// take tells a state that takes a header, and leads to one place alone.
func take(head, to int) api.State { return api.State{Head: head, Else: to} }

// told is what Flow tells of a plan.
type told struct {
	name string
	p    api.Plan
	want []uint64
}

func tryTold(t *testing.T, l []told) {
	t.Helper()
	for _, c := range l {
		got, f := Flow(c.p)
		if f != right || !slices.Equal(got, c.want) {
			t.Errorf("%s: %v %v, want %v", c.name, got, f, c.want)
		}
		if f := Check(c.p); f != right {
			t.Errorf("%s: Check tells %v", c.name, f)
		}
	}
}

// wrong is what Flow finds wrong with a plan that walk.Walk has nothing against.
type wrong struct {
	name string
	p    api.Plan
	want api.Fault
}

func tryWrong(t *testing.T, l []wrong) {
	t.Helper()
	for _, c := range l {
		if _, f := walk.Walk(c.p); f != right {
			t.Errorf("%s: walk.Walk tells %v", c.name, f)
		}
		got, f := Flow(c.p)
		if f != c.want || len(got) != 0 && c.want != right {
			t.Errorf("%s: %v %v, want %v", c.name, got, f, c.want)
		}
		if f := Check(c.p); f != c.want {
			t.Errorf("%s: Check tells %v, want %v", c.name, f, c.want)
		}
	}
}

// NThere 0 to 1 or 2; node 1 sets a field of header 0: no fault, whatever the parser took.
func TestFlowExample(t *testing.T) {
	p := with(yard(there(0, 1, 2), do(0, 2)), []api.Action{act(set(ref(0, 0)))})
	mixed := api.State{Head: -1, On: inPort, Cases: []api.Case{{Value: 1, Mask: 1, To: 1}}, Else: api.Accept}
	tryTold(t, []told{
		{"taken", p, []uint64{1, 1, 0}},
		{"taken on no way", parsed(p, take(-1, api.Accept)), []uint64{0, 1, 0}},
		{"taken on one way", parsed(p, mixed, take(0, api.Accept)), []uint64{0, 1, 0}},
		{"others are taken", parsed(p, take(5, 1), take(2, api.Accept)), []uint64{36, 37, 36}},
		{"all are refused", parsed(p, take(0, api.Reject)), []uint64{none, none, none}},
	})
}

// Ahead of the node 0, or of the end, stands what Walk tells of Accept.
func TestFlowStart(t *testing.T) {
	tryTold(t, []told{
		{"no nodes", yard(), []uint64{1}},
		{"no nodes, no headers", api.Plan{States: []api.State{take(-1, api.Accept)}}, []uint64{0}},
		{"no nodes, no way", parsed(yard(), take(0, api.Reject)), []uint64{none}},
		{"no nodes, nothing taken", parsed(yard(), take(-1, api.Accept)), []uint64{0}},
		{"no nodes, all taken", parsed(yard(), take(3, 1), take(1, 2), take(5, 3), take(0, 4), take(2, 5), take(4, api.Accept)), []uint64{63}},
		{"one node", yard(check(1, 1)), []uint64{1, 1}},
		{"one node, no way", parsed(yard(check(1, 1)), take(0, api.Reject)), []uint64{none, none}},
		{"taken on a way that is refused", parsed(yard(check(1, 1)),
			api.State{Head: 0, Cases: []api.Case{{To: 1}}, Else: 2}, take(1, api.Reject), take(2, api.Accept)), []uint64{5, 5}},
		{"from a state to which no way comes", parsed(yard(check(1, 1)), take(2, 2), take(-1, api.Accept), take(3, api.Accept)), []uint64{12, 12}},
	})
	for head := range 6 {
		tryTold(t, []told{{"header by header", parsed(yard(check(1, 1)), take(head, api.Accept)), []uint64{1 << head, 1 << head}}})
	}
}

func TestFlowIf(t *testing.T) {
	tryTold(t, []told{
		{"to two places", yard(check(1, 2), check(3, 3), check(3, 3)), []uint64{1, 1, 1, 1}},
		{"past a node", yard(check(2, 2), check(2, 2), check(3, 3)), []uint64{1, none, 1, 1}},
		{"always the one, but both are gone", yard(api.Node{Kind: api.NIf, E: of(), Yes: 1, No: 2}, there(1, 2, 2), check(3, 3)), []uint64{1, 1, 1, 1}},
		{"to the end", yard(check(3, 1), there(1, 2, 3), check(3, 3)), []uint64{1, 1, 3, 1}},
		{"all that is beside headers", yard(check(1, 1, inMeta, ref(api.InMeta, 1), inPort)), []uint64{1, 1}},
	})
	tryWrong(t, []wrong{
		{"there", yard(check(1, 1, ref(0, 0))), right},
		{"there on some way alone", yard(check(1, 1, ref(1, 1))), gone(0)},
		{"never there", yard(check(1, 1, ref(5, 7))), gone(0)},
		{"the first of three fields", yard(check(1, 1, ref(0, 0), inMeta, ref(2, 0))), gone(0)},
		{"the last of three fields", yard(check(1, 1, ref(2, 0), inMeta, ref(0, 0))), gone(0)},
		{"the one between", yard(check(1, 1, inPort, ref(2, 0), ref(0, 0))), gone(0)},
		{"no step that names a field", yard(api.Node{Kind: api.NIf, E: []api.Push{{Op: api.PNum, R: ref(3, 0)}, {Op: api.PNot, R: ref(4, 0)}}, Yes: 1, No: 1}), right},
	})
}

func TestFlowThere(t *testing.T) {
	tryTold(t, []told{
		{"with it, and without it", yard(there(1, 1, 2), check(3, 3), check(3, 3)), []uint64{1, 3, 1, 1}},
		{"surely there, and yet without it", yard(there(0, 1, 2), check(3, 3), check(3, 3)), []uint64{1, 1, 0, 0}},
		{"never there, and yet with it", yard(there(5, 1, 2), check(3, 3), check(3, 3)), []uint64{1, 33, 1, 1}},
		{"both to one place", yard(there(0, 1, 1)), []uint64{1, 0}},
		{"without it past the end", yard(there(1, 1, 3), there(2, 2, 3), check(3, 3, ref(1, 0), ref(2, 0))), []uint64{1, 3, 7, 1}},
		{"with it on one way, made on the other", with(yard(there(1, 2, 1), do(0, 2), check(3, 3, ref(1, 0))), []api.Action{act(on(1))}), []uint64{1, 1, 3, 3}},
	})
	tryWrong(t, []wrong{
		{"itself reads nothing", yard(api.Node{Kind: api.NThere, N: 5, E: of(ref(4, 0)), Yes: 1, No: 1}), right},
		{"to Yes", yard(there(1, 1, 2), check(2, 2, ref(1, 0))), right},
		{"to No", yard(there(1, 2, 1), check(2, 2, ref(1, 0))), gone(1)},
		{"to No, though it was taken", yard(there(0, 2, 1), check(2, 2, ref(0, 0))), gone(1)},
		{"to both", yard(there(1, 1, 1), check(2, 2, ref(1, 0))), gone(1)},
		{"another one", yard(there(2, 1, 2), check(2, 2, ref(1, 0))), gone(1)},
		{"where they come together", yard(there(1, 1, 2), check(2, 2, ref(1, 0)), check(3, 3, ref(1, 0))), gone(2)},
		{"asked again", yard(there(1, 1, 2), check(2, 2, ref(1, 0)), there(1, 3, 4), check(4, 4, ref(1, 0))), right},
	})
}

func TestFlowDo(t *testing.T) {
	tryTold(t, []told{
		{"nothing is done", doing(), []uint64{1, 1}},
		{"on", doing(on(3)), []uint64{1, 9}},
		{"on, there already", doing(on(0)), []uint64{1, 1}},
		{"off", doing(off(0)), []uint64{1, 0}},
		{"off, not there anyway", doing(off(5)), []uint64{1, 1}},
		{"on, then off", doing(on(3), off(3)), []uint64{1, 1}},
		{"off, then on", doing(off(0), on(0)), []uint64{1, 1}},
		{"five deeds", doing(on(5), off(0), on(4), off(5), on(2)), []uint64{1, 20}},
		{"the others change nothing", doing(set(ref(0, 0)), port(ref(0, 0)), total(ref(0, 0), 0), drop()), []uint64{1, 1}},
		{"what a deed does not have does not count", doing(
			api.Op{Kind: api.OSet, R: inMeta, E: of(), Head: 0}, api.Op{Kind: api.OPort, E: of(), Head: 3}, api.Op{Kind: api.ODrop, Head: 0}, total(inMeta, 0)), []uint64{1, 1}},
		{"past a node", with(yard(do(0, 2), check(2, 2), do(1, 3)), []api.Action{act(on(1)), act(off(0))}), []uint64{1, none, 3, 2}},
		{"No does not count", with(yard(api.Node{Kind: api.NDo, Yes: 2, No: 1}, check(2, 2)), []api.Action{act()}), []uint64{1, none, 1}},
		{"one behind the other", with(yard(do(0, 1), do(1, 2), do(0, 3)), []api.Action{act(on(2)), act(off(2), on(3))}), []uint64{1, 5, 9, 13}},
		{"another one of the actions", with(yard(do(7, 1)), append(make([]api.Action, 7), act(on(4)))), []uint64{1, 17}},
	})
}

func TestFlowDeeds(t *testing.T) {
	zero, one, two := ref(0, 0), ref(1, 0), ref(2, 0)
	tryWrong(t, []wrong{
		{"set", doing(set(zero, zero)), right},
		{"set, R", doing(set(one)), gone(0)},
		{"set, R, from what is there", doing(set(two, zero)), gone(0)},
		{"set, E", doing(set(zero, one)), gone(0)},
		{"set, the last of E", doing(set(inMeta, inPort, zero, ref(5, 0))), gone(0)},
		{"set, the first of E", doing(set(inMeta, ref(5, 0), zero, inPort)), gone(0)},
		{"set beside headers", doing(set(ref(api.InMeta, 1), inMeta, inPort)), right},
		{"port", doing(port(zero)), right},
		{"port, E", doing(port(one)), gone(0)},
		{"port, beside headers", doing(port(inPort, inMeta)), right},
		{"sum", doing(total(zero, 0)), right},
		{"sum, R", doing(total(one, 0)), gone(0)},
		{"sum, Head", doing(total(zero, 1)), gone(0)},
		{"sum, Head, beside headers", doing(total(inMeta, 2)), gone(0)},
		{"sum, beside headers", doing(total(inMeta, 0)), right},
		{"sum, both", doing(total(two, 2)), gone(0)},
		{"sum into another header", doing(on(4), total(ref(4, 1), 0)), right},
		{"sum of another header", doing(on(4), total(zero, 4)), right},
		{"drop", doing(drop()), right},
		{"on", doing(on(5)), right},
		{"off", doing(off(5)), right},
		{"on, then read", doing(on(1), set(zero, one)), right},
		{"on, then set", doing(on(1), set(one)), right},
		{"read, then on", doing(set(zero, one), on(1)), gone(0)},
		{"off, then read", doing(off(0), port(zero)), gone(0)},
		{"off, then set", doing(off(0), set(zero)), gone(0)},
		{"off, then summed", doing(off(0), total(inMeta, 0)), gone(0)},
		{"read, then off", doing(set(zero, zero), off(0)), right},
		{"off and on, then read", doing(off(0), on(0), set(zero, zero)), right},
		{"on and off, then read", doing(on(1), off(1), set(zero, one)), gone(0)},
		{"dropped, then read", doing(drop(), port(one)), gone(0)},
		{"the last of five", doing(drop(), on(2), set(two, zero), off(2), total(two, 0)), gone(0)},
	})
}

// What a deed or a step does not have is not looked at.
func TestFlowLooksAtWhatIsHad(t *testing.T) {
	zero, five := ref(0, 0), ref(5, 0)
	far := ref(math.MaxInt, math.MinInt)
	tryWrong(t, []wrong{
		{"set, Head", doing(api.Op{Kind: api.OSet, R: zero, Head: 5, E: of()}), right},
		{"set, Head is far", doing(api.Op{Kind: api.OSet, R: zero, Head: math.MaxInt, E: of()}), right},
		{"on, R and E", doing(api.Op{Kind: api.OOn, R: five, E: of(five)}), right},
		{"off, R and E", doing(api.Op{Kind: api.OOff, R: far, E: of(far)}), right},
		{"drop, R, Head and E", doing(api.Op{Kind: api.ODrop, R: five, Head: 5, E: of(five)}), right},
		{"port, R and Head", doing(api.Op{Kind: api.OPort, R: five, Head: 5, E: of()}), right},
		{"sum, E", doing(api.Op{Kind: api.OSum, R: zero, E: of(five)}), right},
		{"a number's field", doing(api.Op{Kind: api.OPort, E: []api.Push{{Op: api.PNum, R: five}, {Op: api.PNot, R: far}}}), right},
		{"E of NDo", with(yard(api.Node{Kind: api.NDo, E: of(five), Yes: 1, No: math.MinInt}), []api.Action{act()}), right},
		{"E of NTable", with(yard(api.Node{Kind: api.NTable, E: of(far), Yes: 1, No: math.MaxInt}), []api.Action{act()}, tab([]int{0}, zero)), right},
		{"N of NIf", yard(api.Node{Kind: api.NIf, N: 5, E: of(zero), Yes: 1, No: 1}), right},
		{"an action that no node does", with(yard(check(1, 1)), []api.Action{act(set(five))}), right},
		{"a table that no node asks", with(yard(check(1, 1)), []api.Action{act()}, tab([]int{0}, five)), right},
		{"what goes out", func() api.Plan { p := yard(check(1, 1)); p.Out = []int{5, 1}; return p }(), right},
	})
	tryTold(t, []told{{"N of NIf is no header here", yard(api.Node{Kind: api.NIf, N: 5, E: of(zero), Yes: 1, No: 1}), []uint64{1, 1}}})
}

func TestFlowTable(t *testing.T) {
	zero := ref(0, 0)
	acts := []api.Action{act(), act(on(1)), act(off(0), on(1)), act(on(2), on(1)), act8(on(3), set(ref(3, 1), inArg))}
	asking := func(l ...int) api.Plan { return with(yard(ask(0, 1)), acts, tab(l, zero)) }
	tryTold(t, []told{
		{"nothing is done", asking(0), []uint64{1, 1}},
		{"one action", asking(1), []uint64{1, 3}},
		{"behind both", asking(3, 1), []uint64{1, 3}},
		{"behind the first alone", asking(1, 0), []uint64{1, 1}},
		{"behind the last alone", asking(0, 1), []uint64{1, 1}},
		{"off by one of them", asking(1, 2, 3), []uint64{1, 2}},
		{"off by the last of four", asking(0, 1, 3, 2), []uint64{1, 0}},
		{"twice the same", asking(3, 3), []uint64{1, 7}},
		{"what is done where nothing fits is not all", with(yard(ask(0, 1)), acts, api.Table{Kind: api.KPrefix, Keys: []api.Ref{zero}, Acts: []int{1, 0}, Def: 1}), []uint64{1, 1}},
		{"without room for entries, too", with(yard(ask(0, 1)), acts, api.Table{Kind: api.KTernary, Keys: []api.Ref{zero}, Acts: []int{0, 2}}), []uint64{1, 0}},
		{"with a parameter", with(yard(ask(0, 1)), acts, api.Table{Kind: api.KExact, Keys: []api.Ref{zero}, Acts: []int{4}, Def: 4, Args: []uint64{7}}), []uint64{1, 9}},
		{"No does not count", with(yard(api.Node{Kind: api.NTable, Yes: 2, No: 1}, check(2, 2)), acts, tab([]int{1}, zero)), []uint64{1, none, 3}},
		{"the last of five tables", with(yard(ask(4, 1)), acts, append(slices.Repeat([]api.Table{tab([]int{0}, ref(5, 0))}, 4), tab([]int{1}, inPort))...), []uint64{1, 3}},
	})
}

func TestFlowTableFaults(t *testing.T) {
	zero, one := ref(0, 0), ref(1, 1)
	acts := []api.Action{act(), act(on(1)), act(set(one)), act(off(0)), act(port(zero)), act8(set(zero, inArg, one))}
	asking := func(l []int, keys ...api.Ref) api.Plan { return with(yard(ask(0, 1)), acts, tab(l, keys...)) }
	tryWrong(t, []wrong{
		{"a key", asking([]int{0}, zero), right},
		{"a key on some way alone", asking([]int{0}, one), gone(0)},
		{"the first of three keys", asking([]int{0}, one, zero, inMeta), gone(0)},
		{"the last of three keys", asking([]int{0}, zero, inPort, ref(5, 7)), gone(0)},
		{"keys beside headers", asking([]int{0}, inMeta, inPort, ref(api.InMeta, 1)), right},
		{"what the action makes is no key", asking([]int{1}, one), gone(0)},
		{"an action", asking([]int{2}, zero), gone(0)},
		{"the last of four actions", asking([]int{0, 1, 3, 2}, zero), gone(0)},
		{"what another action makes", asking([]int{1, 2}, zero), gone(0)},
		{"what another action takes away", asking([]int{3, 4}, zero), right},
		{"what is said where nothing fits", with(yard(ask(0, 1)), acts, api.Table{Kind: api.KExact, Keys: []api.Ref{zero}, Acts: []int{0, 5}, Def: 5, Args: []uint64{7}}), gone(0)},
		{"a key that was made", with(yard(do(1, 1), ask(0, 2)), acts, tab([]int{2}, one)), right},
		{"a key that was taken away", with(yard(do(3, 1), ask(0, 2)), acts, tab([]int{0}, zero)), gone(1)},
		{"behind a table that may take it away", with(yard(ask(0, 1), check(2, 2, zero)), acts, tab([]int{0, 3}, zero)), gone(1)},
		{"behind a table that may make it", with(yard(ask(0, 1), check(2, 2, one)), acts, tab([]int{0, 1}, zero)), gone(1)},
		{"behind a table that makes it", with(yard(ask(0, 1), check(2, 2, one)), acts, tab([]int{1}, zero)), right},
	})
}

// To where no way comes, nothing is read, and from there none goes on.
func TestFlowWhereNoWayComes(t *testing.T) {
	five := ref(5, 0)
	acts := []api.Action{act(off(0), off(5), set(five, ref(0, 0))), act(on(3)), act(off(0))}
	table := tab([]int{0}, five)
	tryTold(t, []told{
		{"an action", with(yard(check(2, 2), do(0, 2), check(3, 3, ref(0, 0))), acts), []uint64{1, none, 1, 1}},
		{"a table", with(yard(check(2, 2), ask(0, 2), check(3, 3, ref(0, 0))), acts, table), []uint64{1, none, 1, 1}},
		{"an expression", yard(check(2, 2), check(2, 2, five), check(3, 3)), []uint64{1, none, 1, 1}},
		{"what is asked there", yard(check(3, 3), there(0, 2, 3), check(3, 3), check(4, 4, ref(0, 0))), []uint64{1, none, none, 1, 1}},
		{"on and on", with(yard(check(4, 4), do(2, 2), do(0, 3), ask(0, 4)), acts, table), []uint64{1, none, none, none, 1}},
		{"nothing is taken apart", parsed(with(yard(do(0, 1), ask(0, 2), check(3, 3, five), there(5, 4, 4)), acts, table), take(0, api.Reject)), []uint64{none, none, none, none, none}},
		{"past all", with(yard(check(3, 3), do(0, 2), ask(0, 3)), acts, table), []uint64{1, none, none, 1}},
	})
}

// Faults are told at the first node of which it is so, by their numbers.
func TestFlowFirstNode(t *testing.T) {
	five := ref(5, 0)
	acts := []api.Action{act(set(five)), act(), act(on(5))}
	chain := func(last api.Node) api.Plan {
		var l []api.Node
		for n := range 9 {
			l = append(l, check(n+1, n+1))
		}
		return with(yard(append(l, last)...), acts, tab([]int{1}, five))
	}
	tryWrong(t, []wrong{
		{"the last of ten, NIf", chain(check(10, 10, five)), gone(9)},
		{"the last of ten, NDo", chain(do(0, 10)), gone(9)},
		{"the last of ten, NTable", chain(ask(0, 10)), gone(9)},
		{"the last of ten, NThere", chain(there(5, 10, 10)), right},
		{"the first of two", with(yard(check(1, 1), do(0, 2), check(3, 3, five)), acts), gone(1)},
		{"the one that is told first", with(yard(check(2, 1, five), do(0, 2), check(3, 3)), acts), gone(0)},
		{"by its number, not by the way", with(yard(check(2, 1), check(3, 3, five), do(0, 3)), acts), gone(1)},
		{"no way comes to the first", with(yard(check(2, 2), do(0, 3), check(3, 3, five)), acts), gone(2)},
		{"a way of three", with(yard(check(1, 2), check(3, 3), there(5, 3, 4), check(5, 5, five), check(5, 5)), acts), gone(3)},
		{"made on all ways", with(yard(check(1, 2), do(2, 3), there(5, 3, 4), check(5, 5, five), check(5, 5)), acts), right},
	})
}

// Ten nodes, five tables and eight actions, on many ways.
func TestFlowMany(t *testing.T) {
	var acts []api.Action
	for n := range 4 {
		acts = append(acts, act(on(n+1)), act(off(n+1), on(5)))
	}
	var tabs []api.Table
	for n := range 4 {
		tabs = append(tabs, tab([]int{2 * n, 2*n + 1}, ref(0, 0)))
	}
	tabs = append(tabs, tab([]int{1, 3, 5, 7}, ref(0, 0)))
	p := with(yard(ask(0, 1), ask(1, 2), there(5, 3, 6), ask(2, 4), do(0, 5), there(2, 7, 8), ask(4, 7), do(2, 9), check(9, 10, ref(5, 0)), there(0, 10, 10)), acts, tabs...)
	tryTold(t, []told{{"all", p, []uint64{1, 1, 1, 33, 33, 35, 1, 33, 35, 33, 32}}})
}

// What walk.Walk tells comes ahead of all.
func TestFlowWalks(t *testing.T) {
	for _, nodes := range [][]api.Node{nil, {check(1, 1)}, {check(1, 1, ref(5, 0))}, {do(0, 1)}} {
		for _, c := range []struct {
			name string
			do   func(p *api.Plan)
			want api.Fault
		}{
			{"too many headers", func(p *api.Plan) { p.Heads = append(p.Heads, p.Heads[0]) }, fault(api.ErrMany, -1)},
			{"a header without fields", func(p *api.Plan) { p.Heads[1].W = nil }, fault(api.ErrMany, 1001)},
			{"a field of no bits", func(p *api.Plan) { p.Meta[1] = 0 }, fault(api.ErrWidth, 2001)},
			{"no states", func(p *api.Plan) { p.States = nil }, fault(api.ErrMany, -3)},
			{"back", func(p *api.Plan) { p.States[1].Else = 0 }, fault(api.ErrRound, 3001)},
			{"taken twice", func(p *api.Plan) { p.States[1].Head = 0 }, fault(api.ErrTwice, 3001)},
			{"not taken", func(p *api.Plan) { p.States[0].On.H = 1 }, fault(api.ErrGone, 3000)},
			{"too many deeds", func(p *api.Plan) { p.Acts[0].Ops = slices.Repeat(p.Acts[0].Ops, 6) }, fault(api.ErrMany, 4000)},
			{"no header", func(p *api.Plan) { p.Acts[0].Ops = []api.Op{on(6)} }, fault(api.ErrRange, 4000)},
			{"a header below 0", func(p *api.Plan) { p.Acts[0].Ops = []api.Op{off(-1)} }, fault(api.ErrRange, 4000)},
			{"a deed of no kind", func(p *api.Plan) { p.Acts[0].Ops[0].Kind = 7 }, fault(api.ErrKind, 4000)},
			{"a key that is no field", func(p *api.Plan) { p.Tabs[0].Keys[0].H = 6 }, fault(api.ErrRange, 5000)},
			{"no action", func(p *api.Plan) { p.Tabs[0].Acts[0] = 1 }, fault(api.ErrRange, 5000)},
			{"too many nodes", func(p *api.Plan) { p.Nodes = slices.Repeat([]api.Node{check(1, 1, ref(5, 0))}, 11) }, fault(api.ErrMany, -6)},
			{"a node of no kind", func(p *api.Plan) { p.Nodes = []api.Node{{Yes: 1}} }, fault(api.ErrKind, 6000)},
			{"no table", func(p *api.Plan) { p.Nodes = []api.Node{ask(1, 1)} }, fault(api.ErrRange, 6000)},
			{"no such action", func(p *api.Plan) { p.Nodes = []api.Node{do(-1, 1)} }, fault(api.ErrRange, 6000)},
			{"to itself", func(p *api.Plan) { p.Nodes = []api.Node{check(1, 0)} }, fault(api.ErrRound, 6000)},
			{"behind the end", func(p *api.Plan) { p.Nodes = []api.Node{check(1, 2)} }, fault(api.ErrRange, 6000)},
			{"gone at first, a wrong node behind", func(p *api.Plan) { p.Nodes = []api.Node{check(1, 1, ref(5, 0)), there(6, 2, 2)} }, fault(api.ErrRange, 6001)},
			{"twice out", func(p *api.Plan) { p.Out = []int{1, 0, 1} }, fault(api.ErrTwice, 7002)},
		} {
			p := with(yard(nodes...), []api.Action{act(set(ref(5, 0)))}, tab([]int{0}, ref(5, 0)))
			c.do(&p)
			if _, f := walk.Walk(p); f != c.want {
				t.Fatalf("%s: walk.Walk tells %v, want %v", c.name, f, c.want)
			}
			if got, f := Flow(p); f != c.want || len(got) != 0 {
				t.Errorf("%s: %v %v, want %v", c.name, got, f, c.want)
			}
			if f := Check(p); f != c.want {
				t.Errorf("%s: Check tells %v, want %v", c.name, f, c.want)
			}
		}
	}
	if got, f := Flow(api.Plan{}); f != plan.Check(api.Plan{}) || f != fault(api.ErrMany, -3) || len(got) != 0 {
		t.Errorf("nothing: %v %v", got, f)
	}
}
