package plan

import (
	"math"
	"math/rand"
	"slices"
	"testing"

	"shuntyard/api"
)

func fault(code, at int) api.Fault { return api.Fault{Code: code, At: at} }

func ref(h, f int) api.Ref { return api.Ref{H: h, F: f} }

func num(n uint64) api.Push         { return api.Push{Op: api.PNum, N: n} }
func field(h, f int) api.Push       { return api.Push{Op: api.PRef, R: ref(h, f)} }
func step(op int) api.Push          { return api.Push{Op: op} }
func tree(l ...api.Push) []api.Push { return l }

// times tells n times the same.
func times[T any](n int, x T) []T {
	var l []T
	for range n {
		l = append(l, x)
	}
	return l
}

// least tells the document's example.
func least() api.Plan {
	return api.Plan{Heads: []api.Header{{W: []int{8}}}, States: []api.State{{Head: 0, Else: api.Accept}}}
}

// full tells a plan that has something of everything; it is made anew each time.
func full() api.Plan {
	return api.Plan{
		Heads: []api.Header{{W: []int{8}}, {W: []int{4, 12, 16}}, {W: []int{48, 8}}},
		Meta:  []int{4, 48},
		States: []api.State{
			{Head: 0, On: ref(0, 0), Cases: []api.Case{{Value: 1, Mask: 0xFF, To: 1}, {Value: 2, Mask: 0x0F, To: api.Accept}}, Else: api.Reject},
			{Head: 1, On: ref(api.InPort, 0), Cases: []api.Case{{Value: 0xFFFF, Mask: 0xFFFF, To: 2}}, Else: api.Accept},
			{Head: -1, Else: api.Accept},
		},
		Acts: []api.Action{
			{},
			{W: []int{8, 16}, Ops: []api.Op{
				{Kind: api.OSet, R: ref(0, 0), E: tree(field(api.InArg, 0), field(0, 0), step(api.PAdd))},
				{Kind: api.OPort, E: tree(field(api.InArg, 1))},
				{Kind: api.OSum, R: ref(1, 2), Head: 1},
			}},
			{Ops: []api.Op{{Kind: api.OOn, Head: 2}, {Kind: api.OOff, Head: 1}, {Kind: api.ODrop}}},
		},
		Tabs: []api.Table{
			{Kind: api.KExact, Keys: []api.Ref{ref(0, 0), ref(api.InMeta, 0)}, Acts: []int{0, 1}, Cap: 16, Def: 1, Args: []uint64{255, 65535}},
			{Kind: api.KPrefix, Keys: []api.Ref{ref(1, 2)}, Acts: []int{2}, Def: 2},
			{Kind: api.KTernary, Keys: []api.Ref{ref(api.InPort, 0), ref(2, 0), ref(2, 1)}, Acts: []int{0, 2}, Cap: 3},
		},
		Nodes: []api.Node{
			{Kind: api.NIf, E: tree(field(1, 1), num(7), step(api.PLess), step(api.PNot)), Yes: 2, No: 1},
			{Kind: api.NTable, N: 0, Yes: 3},
			{Kind: api.NThere, N: 2, Yes: 3, No: 4},
			{Kind: api.NDo, N: 2, Yes: 4},
		},
		Out: []int{2, 0},
	}
}

// change is something that is done to a full plan, and what Check tells of it.
type change struct {
	name string
	do   func(p *api.Plan)
	want api.Fault
}

// tryEach does each change to a full plan of its own.
func tryEach(t *testing.T, l []change) {
	t.Helper()
	for _, c := range l {
		p := full()
		c.do(&p)
		if got := Check(p); got != c.want {
			t.Errorf("%s: %v, want %v", c.name, got, c.want)
		}
	}
}

var right = fault(0, 0)

func TestCheckRight(t *testing.T) {
	if got := Check(least()); got != right {
		t.Errorf("example: %v", got)
	}
	if got := Check(full()); got != right {
		t.Errorf("full: %v", got)
	}
	if got := Check(api.Plan{States: []api.State{{Head: -1, Else: api.Reject}}}); got != right {
		t.Errorf("one state alone: %v", got)
	}
	if got := Check(api.Plan{}); got != fault(api.ErrMany, -3) {
		t.Errorf("nothing: %v", got)
	}
}

func TestCheckHeaders(t *testing.T) {
	tryEach(t, []change{
		{"6 headers", func(p *api.Plan) { p.Heads = append(p.Heads, times(3, api.Header{W: []int{8}})...) }, right},
		{"7 headers", func(p *api.Plan) { p.Heads = append(p.Heads, times(4, api.Header{W: []int{8}})...) }, fault(api.ErrMany, -1)},
		{"7 wrong headers", func(p *api.Plan) { p.Heads = times(7, api.Header{}) }, fault(api.ErrMany, -1)},
		{"many headers", func(p *api.Plan) { p.Heads = times(100000, api.Header{W: []int{8}}) }, fault(api.ErrMany, -1)},
		{"no fields", func(p *api.Plan) { p.Heads[1].W = nil }, fault(api.ErrMany, 1001)},
		{"8 fields", func(p *api.Plan) { p.Heads[1].W = times(8, 32) }, right},
		{"9 fields", func(p *api.Plan) { p.Heads[1].W = times(9, 8) }, fault(api.ErrMany, 1001)},
		{"a field of 49 bits, the last", func(p *api.Plan) { p.Heads[2].W = []int{48, 8, 8, 49, 7} }, fault(api.ErrWidth, 1002)},
		{"a field of no bits", func(p *api.Plan) { p.Heads[0].W[0] = 0 }, fault(api.ErrWidth, 1000)},
		{"no whole bytes", func(p *api.Plan) { p.Heads[0].W[0] = 7 }, fault(api.ErrWidth, 1000)},
		{"264 bits", func(p *api.Plan) { p.Heads[2].W = []int{48, 48, 48, 48, 48, 24} }, fault(api.ErrWidth, 1002)},
		{"header by header, not code by code", func(p *api.Plan) { p.Heads[1].W[0], p.Heads[2].W = 5, nil }, fault(api.ErrWidth, 1001)},
	})
}

func TestCheckMeta(t *testing.T) {
	tryEach(t, []change{
		{"4 fields", func(p *api.Plan) { p.Meta = []int{1, 48, 47, 2}; p.Tabs[0].Keys[1].F = 3 }, right},
		{"5 fields", func(p *api.Plan) { p.Meta = []int{4, 4, 4, 4, 4} }, fault(api.ErrMany, -2)},
		{"5 wrong fields", func(p *api.Plan) { p.Meta = make([]int, 5) }, fault(api.ErrMany, -2)},
		{"no bits", func(p *api.Plan) { p.Meta[0] = 0 }, fault(api.ErrWidth, 2000)},
		{"49 bits", func(p *api.Plan) { p.Meta[1] = 49 }, fault(api.ErrWidth, 2001)},
		{"fewer than none", func(p *api.Plan) { p.Meta[1] = math.MinInt }, fault(api.ErrWidth, 2001)},
		{"very many", func(p *api.Plan) { p.Meta = append(p.Meta, 1, math.MaxInt) }, fault(api.ErrWidth, 2003)},
	})
}

func TestCheckStates(t *testing.T) {
	end := api.State{Head: -1, Else: api.Accept}
	case4 := times(4, api.Case{Value: 1, Mask: 1, To: api.Reject})
	tryEach(t, []change{
		{"no state", func(p *api.Plan) { p.States = []api.State{} }, fault(api.ErrMany, -3)},
		{"8 states", func(p *api.Plan) { p.States = append(p.States, times(5, end)...); p.States[0].Else = 7 }, right},
		{"9 states", func(p *api.Plan) { p.States = append(p.States, times(6, end)...) }, fault(api.ErrMany, -3)},
		{"9 wrong states", func(p *api.Plan) { p.States = times(9, api.State{}) }, fault(api.ErrMany, -3)},
		{"the last header", func(p *api.Plan) { p.States[2].Head = 2 }, right},
		{"behind the last header", func(p *api.Plan) { p.States[2].Head = 3 }, fault(api.ErrRange, 3002)},
		{"header -2", func(p *api.Plan) { p.States[1].Head = -2 }, fault(api.ErrRange, 3001)},
		{"the greatest header", func(p *api.Plan) { p.States[1].Head = math.MaxInt }, fault(api.ErrRange, 3001)},
		{"the least header", func(p *api.Plan) { p.States[1].Head = math.MinInt }, fault(api.ErrRange, 3001)},
		{"4 cases", func(p *api.Plan) { p.States[1].Cases = case4 }, right},
		{"5 cases", func(p *api.Plan) { p.States[1].Cases = append(case4, case4[0]) }, fault(api.ErrMany, 3001)},
		{"5 cases and no field", func(p *api.Plan) { p.States[1].Cases, p.States[1].On = times(5, api.Case{}), ref(9, 9) }, fault(api.ErrMany, 3001)},
		{"on Meta", func(p *api.Plan) { p.States[1].On, p.States[1].Cases = ref(api.InMeta, 1), case4 }, right},
		{"on a field behind the last", func(p *api.Plan) { p.States[0].On = ref(0, 1) }, fault(api.ErrRange, 3000)},
		{"on a parameter", func(p *api.Plan) { p.States[0].On = ref(api.InArg, 0) }, fault(api.ErrRange, 3000)},
		{"on the port, F 1", func(p *api.Plan) { p.States[0].On = ref(api.InPort, 1) }, fault(api.ErrRange, 3000)},
		{"on a place that there is not", func(p *api.Plan) { p.States[0].On = ref(-4, 0) }, fault(api.ErrRange, 3000)},
		{"without cases On is not looked at", func(p *api.Plan) { p.States[2].On = ref(-9, 9) }, right},
		{"an empty list of cases", func(p *api.Plan) { p.States[2].On, p.States[2].Cases = ref(-9, 9), []api.Case{} }, right},
	})
}

func TestCheckCases(t *testing.T) {
	set := func(c api.Case) func(p *api.Plan) { return func(p *api.Plan) { p.States[0].Cases[1] = c } }
	tryEach(t, []change{
		{"all bits of 8", set(api.Case{Value: 0xFF, Mask: 0xFF, To: 2}), right},
		{"no bits", set(api.Case{To: api.Reject}), right},
		{"a mask of 9 bits", set(api.Case{Mask: 0x100, To: 2}), fault(api.ErrWidth, 3000)},
		{"a mask of 64 bits", set(api.Case{Mask: math.MaxUint64, To: 2}), fault(api.ErrWidth, 3000)},
		{"a value beside its mask", set(api.Case{Value: 3, Mask: 2, To: 2}), fault(api.ErrWidth, 3000)},
		{"a value below its mask", set(api.Case{Value: 1, Mask: 6, To: 2}), fault(api.ErrWidth, 3000)},
		{"a value without a mask", set(api.Case{Value: 1 << 63, To: 2}), fault(api.ErrWidth, 3000)},
		{"to a state behind", set(api.Case{To: 1}), right},
		{"to itself", set(api.Case{To: 0}), fault(api.ErrRound, 3000)},
		{"to no state", set(api.Case{To: 3}), fault(api.ErrRange, 3000)},
		{"to -1", set(api.Case{To: -1}), fault(api.ErrRange, 3000)},
		{"to 999", set(api.Case{To: 999}), fault(api.ErrRange, 3000)},
		{"to 1002", set(api.Case{To: 1002}), fault(api.ErrRange, 3000)},
		{"width ahead of where to", set(api.Case{Value: 1, To: 0}), fault(api.ErrWidth, 3000)},
		{"case by case", func(p *api.Plan) {
			p.States[0].Cases[0].To, p.States[0].Cases[1].Mask = 0, 0
		}, fault(api.ErrRound, 3000)},
		{"a mask of 17 bits on the port", func(p *api.Plan) { p.States[1].Cases[0] = api.Case{Mask: 0x10000, To: 2} }, fault(api.ErrWidth, 3001)},
		{"a mask of 48 bits on Meta", func(p *api.Plan) {
			p.States[1].On, p.States[1].Cases[0].Mask = ref(api.InMeta, 1), 1<<48-1
		}, right},
		{"a mask of 49 bits on Meta", func(p *api.Plan) {
			p.States[1].On, p.States[1].Cases[0].Mask = ref(api.InMeta, 1), 1<<49-1
		}, fault(api.ErrWidth, 3001)},
		{"back", func(p *api.Plan) { p.States[1].Cases[0].To = 0 }, fault(api.ErrRound, 3001)},
	})
}

func TestCheckElse(t *testing.T) {
	to := func(s, n int) func(p *api.Plan) { return func(p *api.Plan) { p.States[s].Else = n } }
	tryEach(t, []change{
		{"Reject", to(2, api.Reject), right},
		{"a state behind", to(0, 2), right},
		{"back", to(1, 0), fault(api.ErrRound, 3001)},
		{"itself", to(2, 2), fault(api.ErrRound, 3002)},
		{"no state", to(2, 3), fault(api.ErrRange, 3002)},
		{"-1", to(1, -1), fault(api.ErrRange, 3001)},
		{"the least", to(1, math.MinInt), fault(api.ErrRange, 3001)},
		{"the greatest", to(1, math.MaxInt), fault(api.ErrRange, 3001)},
		{"cases ahead of it", func(p *api.Plan) { p.States[0].Else, p.States[0].Cases[1].To = -1, 0 }, fault(api.ErrRound, 3000)},
	})
}

func TestCheckActions(t *testing.T) {
	drop := api.Op{Kind: api.ODrop}
	tryEach(t, []change{
		{"8 actions", func(p *api.Plan) { p.Acts = append(p.Acts, times(5, api.Action{})...) }, right},
		{"9 actions", func(p *api.Plan) { p.Acts = append(p.Acts, times(6, api.Action{})...) }, fault(api.ErrMany, -4)},
		{"9 wrong actions", func(p *api.Plan) { p.Acts = times(9, api.Action{W: []int{0}}) }, fault(api.ErrMany, -4)},
		{"3 parameters", func(p *api.Plan) { p.Acts[1].W = []int{8, 16, 48}; p.Tabs[0].Args = []uint64{0, 0, 1<<48 - 1} }, right},
		{"4 parameters", func(p *api.Plan) { p.Acts[1].W = []int{8, 16, 48, 0} }, fault(api.ErrMany, 4001)},
		{"5 deeds", func(p *api.Plan) { p.Acts[0].Ops = times(5, drop) }, right},
		{"6 deeds", func(p *api.Plan) { p.Acts[0].Ops = times(6, drop) }, fault(api.ErrMany, 4000)},
		{"6 deeds of no kind", func(p *api.Plan) { p.Acts[0].Ops = make([]api.Op, 6) }, fault(api.ErrMany, 4000)},
		{"a parameter of no bits", func(p *api.Plan) { p.Acts[1].W[0] = 0 }, fault(api.ErrWidth, 4001)},
		{"a parameter of -1 bits", func(p *api.Plan) { p.Acts[1].W[1] = -1 }, fault(api.ErrWidth, 4001)},
		{"a parameter of 49 bits", func(p *api.Plan) { p.Acts[1].W[1] = 49 }, fault(api.ErrWidth, 4001)},
		{"6 deeds and a wrong width", func(p *api.Plan) { p.Acts[1].W[1], p.Acts[1].Ops = 0, times(6, drop) }, fault(api.ErrMany, 4001)},
		{"a wrong width and a wrong deed", func(p *api.Plan) { p.Acts[1].W[1], p.Acts[1].Ops[0].Kind = 0, 0 }, fault(api.ErrWidth, 4001)},
		{"action by action", func(p *api.Plan) { p.Acts[1].Ops[2].Head, p.Acts[2].W = 9, times(4, 1) }, fault(api.ErrRange, 4001)},
	})
}

func TestCheckDeeds(t *testing.T) {
	set := func(o api.Op) func(p *api.Plan) { return func(p *api.Plan) { p.Acts[1].Ops[1] = o } }
	one, no := tree(num(1)), tree(step(api.PAdd))
	wrong, none, tooDeep := fault(api.ErrRange, 4001), fault(api.ErrKind, 4001), fault(api.ErrTree, 4001)
	tryEach(t, []change{
		{"set Meta", set(api.Op{Kind: api.OSet, R: ref(api.InMeta, 1), E: one}), right},
		{"set no Meta", set(api.Op{Kind: api.OSet, R: ref(api.InMeta, 2), E: one}), wrong},
		{"set the last field", set(api.Op{Kind: api.OSet, R: ref(2, 1), E: one}), right},
		{"set behind the last field", set(api.Op{Kind: api.OSet, R: ref(2, 2), E: one}), wrong},
		{"set behind the last header", set(api.Op{Kind: api.OSet, R: ref(3, 0), E: one}), wrong},
		{"set field -1", set(api.Op{Kind: api.OSet, R: ref(0, -1), E: one}), wrong},
		{"set a parameter", set(api.Op{Kind: api.OSet, R: ref(api.InArg, 0), E: one}), wrong},
		{"set the port", set(api.Op{Kind: api.OSet, R: ref(api.InPort, 0), E: one}), wrong},
		{"set, R ahead of E", set(api.Op{Kind: api.OSet, R: ref(9, 0), E: no}), wrong},
		{"set, E", set(api.Op{Kind: api.OSet, E: no}), tooDeep},
		{"set, Head is not looked at", set(api.Op{Kind: api.OSet, E: one, Head: -7}), right},
		{"set by the last parameter", set(api.Op{Kind: api.OSet, E: tree(field(api.InArg, 1))}), right},
		{"set by no parameter", set(api.Op{Kind: api.OSet, E: tree(field(api.InArg, 2))}), wrong},
		{"on", set(api.Op{Kind: api.OOn, Head: 2, R: ref(9, 9), E: no}), right},
		{"on, no header", set(api.Op{Kind: api.OOn, Head: 3}), wrong},
		{"on, -1", set(api.Op{Kind: api.OOn, Head: -1}), wrong},
		{"off", set(api.Op{Kind: api.OOff, Head: 0, R: ref(9, 9), E: no}), right},
		{"off, no header", set(api.Op{Kind: api.OOff, Head: math.MaxInt}), wrong},
		{"off, the least", set(api.Op{Kind: api.OOff, Head: math.MinInt}), wrong},
		{"drop", set(api.Op{Kind: api.ODrop, Head: 9, R: ref(9, 9), E: no}), right},
		{"port", set(api.Op{Kind: api.OPort, Head: 9, R: ref(9, 9), E: one}), right},
		{"port, E", set(api.Op{Kind: api.OPort}), tooDeep},
		{"port by a parameter", set(api.Op{Kind: api.OPort, E: tree(field(api.InArg, 0))}), right},
		{"port by no parameter", set(api.Op{Kind: api.OPort, E: tree(field(api.InArg, 2))}), wrong},
		{"sum into another header", set(api.Op{Kind: api.OSum, R: ref(0, 0), Head: 2, E: no}), right},
		{"sum into Meta", set(api.Op{Kind: api.OSum, R: ref(api.InMeta, 0), Head: 0}), right},
		{"sum into the port", set(api.Op{Kind: api.OSum, R: ref(api.InPort, 0)}), wrong},
		{"sum into a parameter", set(api.Op{Kind: api.OSum, R: ref(api.InArg, 0)}), wrong},
		{"sum of no header", set(api.Op{Kind: api.OSum, R: ref(0, 0), Head: 3}), wrong},
		{"sum of -1", set(api.Op{Kind: api.OSum, R: ref(0, 0), Head: -1}), wrong},
		{"kind 0", set(api.Op{E: one}), none},
		{"kind 7", set(api.Op{Kind: 7, E: one}), none},
		{"kind -1", set(api.Op{Kind: -1, E: one}), none},
		{"deed by deed", func(p *api.Plan) { p.Acts[1].Ops[0].E, p.Acts[1].Ops[1].Kind = nil, 0 }, tooDeep},
		{"another action's parameters are not its own", func(p *api.Plan) {
			p.Acts[2].Ops[2] = api.Op{Kind: api.OPort, E: tree(field(api.InArg, 0))}
		}, fault(api.ErrRange, 4002)},
	})
}

func TestCheckTables(t *testing.T) {
	key := func(n int, r api.Ref) func(p *api.Plan) { return func(p *api.Plan) { p.Tabs[2].Keys[n] = r } }
	tryEach(t, []change{
		{"5 tables", func(p *api.Plan) { p.Tabs = append(p.Tabs, p.Tabs[0], p.Tabs[1]) }, right},
		{"6 tables", func(p *api.Plan) { p.Tabs = append(p.Tabs, p.Tabs...) }, fault(api.ErrMany, -5)},
		{"6 wrong tables", func(p *api.Plan) { p.Tabs = make([]api.Table, 6) }, fault(api.ErrMany, -5)},
		{"4 keys", func(p *api.Plan) { p.Tabs[2].Keys = append(p.Tabs[2].Keys, ref(0, 0)) }, fault(api.ErrMany, 5002)},
		{"4 keys, one no field, of no kind", func(p *api.Plan) { p.Tabs[2] = api.Table{Keys: times(4, ref(9, 9))} }, fault(api.ErrMany, 5002)},
		{"a key that is no field", key(1, ref(2, 2)), fault(api.ErrRange, 5002)},
		{"a key that is a parameter", key(0, ref(api.InArg, 0)), fault(api.ErrRange, 5002)},
		{"a key in no header", key(2, ref(3, 0)), fault(api.ErrRange, 5002)},
		{"no field ahead of no kind", func(p *api.Plan) { p.Tabs[0].Kind, p.Tabs[0].Keys[0].F = 0, 1 }, fault(api.ErrRange, 5000)},
		{"no keys", func(p *api.Plan) { p.Tabs[0].Keys = nil }, fault(api.ErrMany, 5000)},
		{"no keys, of no kind", func(p *api.Plan) { p.Tabs[0].Keys, p.Tabs[0].Kind = nil, 4 }, fault(api.ErrKind, 5000)},
		{"a beginning of 2 keys", func(p *api.Plan) { p.Tabs[1].Keys = times(2, ref(0, 0)) }, fault(api.ErrMany, 5001)},
		{"of no kind", func(p *api.Plan) { p.Tabs[1].Kind = 0 }, fault(api.ErrKind, 5001)},
		{"no actions", func(p *api.Plan) { p.Tabs[1].Acts = nil }, fault(api.ErrMany, 5001)},
		{"17 entries", func(p *api.Plan) { p.Tabs[1].Cap = 17 }, fault(api.ErrRange, 5001)},
		{"-1 entries", func(p *api.Plan) { p.Tabs[1].Cap = -1 }, fault(api.ErrRange, 5001)},
		{"the last action", func(p *api.Plan) { p.Tabs[2].Acts[1] = 2 }, right},
		{"no action", func(p *api.Plan) { p.Tabs[2].Acts[1] = 3 }, fault(api.ErrRange, 5002)},
		{"says another action", func(p *api.Plan) { p.Tabs[0].Def = 2 }, fault(api.ErrKind, 5000)},
		{"says too few numbers", func(p *api.Plan) { p.Tabs[0].Args = []uint64{1} }, fault(api.ErrMany, 5000)},
		{"says a number too wide", func(p *api.Plan) { p.Tabs[0].Args[1] = 65536 }, fault(api.ErrWidth, 5000)},
	})
}

func TestCheckNodes(t *testing.T) {
	end := api.Node{Kind: api.NDo, N: 0, Yes: 10}
	tryEach(t, []change{
		{"no nodes", func(p *api.Plan) { p.Nodes = nil }, right},
		{"10 nodes", func(p *api.Plan) { p.Nodes = append(p.Nodes, times(6, end)...) }, right},
		{"11 nodes", func(p *api.Plan) { p.Nodes = append(p.Nodes, times(7, end)...) }, fault(api.ErrMany, -6)},
		{"11 wrong nodes", func(p *api.Plan) { p.Nodes = make([]api.Node, 11) }, fault(api.ErrMany, -6)},
	})
	set := func(n api.Node) func(p *api.Plan) { return func(p *api.Plan) { p.Nodes[1] = n } }
	one := tree(num(1))
	wrong, many, round, none := fault(api.ErrRange, 6001), fault(api.ErrMany, 6001), fault(api.ErrRound, 6001), fault(api.ErrKind, 6001)
	tryEach(t, []change{
		{"the last table", set(api.Node{Kind: api.NTable, N: 2, Yes: 2, No: -9, E: tree(step(99))}), right},
		{"no table", set(api.Node{Kind: api.NTable, N: 3, Yes: 2}), wrong},
		{"table -1", set(api.Node{Kind: api.NTable, N: -1, Yes: 2}), wrong},
		{"the last action", set(api.Node{Kind: api.NDo, N: 2, Yes: 2, No: -9, E: tree(step(99))}), right},
		{"no action", set(api.Node{Kind: api.NDo, N: 3, Yes: 2}), wrong},
		{"action -1", set(api.Node{Kind: api.NDo, N: -1, Yes: 2}), wrong},
		{"an action with parameters", set(api.Node{Kind: api.NDo, N: 1, Yes: 2}), many},
		{"an action with parameters, back", set(api.Node{Kind: api.NDo, N: 1, Yes: 0}), many},
		{"if", set(api.Node{Kind: api.NIf, N: -9, E: one, Yes: 2, No: 4}), right},
		{"if nothing", set(api.Node{Kind: api.NIf, Yes: 2, No: 4}), fault(api.ErrTree, 6001)},
		{"if a parameter", set(api.Node{Kind: api.NIf, E: tree(field(api.InArg, 0)), Yes: 2, No: 4}), wrong},
		{"if, E ahead of where to", set(api.Node{Kind: api.NIf, Yes: 9, No: 9}), fault(api.ErrTree, 6001)},
		{"the last header", set(api.Node{Kind: api.NThere, N: 2, E: tree(step(99)), Yes: 2, No: 4}), right},
		{"no header", set(api.Node{Kind: api.NThere, N: 3, Yes: 2, No: 4}), wrong},
		{"header -1", set(api.Node{Kind: api.NThere, N: -1, Yes: 2, No: 4}), wrong},
		{"kind 0", set(api.Node{Yes: 2, No: 2}), none},
		{"kind 5", set(api.Node{Kind: 5, Yes: 2, No: 2}), none},
		{"kind -1, leading back", set(api.Node{Kind: -1, Yes: 0, No: 0}), none},
		{"to the end", set(api.Node{Kind: api.NTable, Yes: 4}), right},
		{"behind the end", set(api.Node{Kind: api.NTable, Yes: 5}), wrong},
		{"to -1", set(api.Node{Kind: api.NTable, Yes: -1}), wrong},
		{"to the greatest", set(api.Node{Kind: api.NTable, Yes: math.MaxInt}), wrong},
		{"to itself", set(api.Node{Kind: api.NTable, Yes: 1}), round},
		{"back", set(api.Node{Kind: api.NDo, Yes: 0}), round},
		{"no, back", set(api.Node{Kind: api.NIf, E: one, Yes: 2, No: 1}), round},
		{"no, behind the end", set(api.Node{Kind: api.NIf, E: one, Yes: 2, No: 5}), wrong},
		{"no, -1", set(api.Node{Kind: api.NThere, Yes: 2, No: -1}), wrong},
		{"no, back, of a header", set(api.Node{Kind: api.NThere, Yes: 2, No: 0}), round},
		{"yes ahead of no", set(api.Node{Kind: api.NIf, E: one, Yes: 0, No: 5}), round},
		{"yes ahead of no, the other way round", set(api.Node{Kind: api.NThere, Yes: 5, No: 0}), wrong},
		{"node by node", func(p *api.Plan) { p.Nodes[1].Yes, p.Nodes[2].N = 0, 9 }, round},
	})
}

func TestCheckOut(t *testing.T) {
	set := func(l ...int) func(p *api.Plan) { return func(p *api.Plan) { p.Out = l } }
	tryEach(t, []change{
		{"none", set(), right},
		{"all", set(2, 1, 0), right},
		{"6", func(p *api.Plan) {
			p.Heads = append(p.Heads, p.Heads...)
			p.Out = []int{5, 4, 3, 2, 1, 0}
		}, right},
		{"7", set(0, 1, 2, 0, 1, 2, 0), fault(api.ErrMany, -7)},
		{"7, none a header", set(9, 9, 9, 9, 9, 9, 9), fault(api.ErrMany, -7)},
		{"no header", set(1, 3), fault(api.ErrRange, 7001)},
		{"-1", set(-1), fault(api.ErrRange, 7000)},
		{"the greatest", set(0, 1, math.MaxInt), fault(api.ErrRange, 7002)},
		{"twice", set(0, 1, 2, 1), fault(api.ErrTwice, 7003)},
		{"no header, twice", set(0, 3, 3), fault(api.ErrRange, 7001)},
		{"one by one", set(0, 0, 3), fault(api.ErrTwice, 7001)},
	})
}

func TestCheckExpressions(t *testing.T) {
	eight := tree(num(1), num(1), step(api.PAdd), num(1), step(api.PAdd), num(1), step(api.PAdd), step(api.PNot))
	for _, c := range []struct {
		name string
		e    []api.Push
		want int
	}{
		{"a number", tree(num(math.MaxUint64)), 0},
		{"a field", tree(field(2, 1)), 0},
		{"the port", tree(field(api.InPort, 0)), 0},
		{"Meta", tree(field(api.InMeta, 1)), 0},
		{"not", tree(num(1), step(api.PNot), step(api.PNot)), 0},
		{"8 steps", eight, 0},
		{"9 steps", append(eight, step(api.PNot)), api.ErrMany},
		{"9 steps of no kind", make([]api.Push, 9), api.ErrMany},
		{"nothing", nil, api.ErrTree},
		{"an empty list", tree(), api.ErrTree},
		{"two are left", tree(num(1), num(1)), api.ErrTree},
		{"two are left, one of them by a sum", tree(num(1), num(1), num(1), step(api.PAdd)), api.ErrTree},
		{"a sum of one", tree(num(1), step(api.PAdd)), api.ErrTree},
		{"a sum of none, though enough comes", tree(step(api.PAdd), num(1), num(1)), api.ErrTree},
		{"not of none", tree(step(api.PNot)), api.ErrTree},
		{"not of none, then a number", tree(step(api.PNot), num(1)), api.ErrTree},
		{"kind 0", tree(step(0)), api.ErrTree},
		{"kind 14", tree(num(1), step(14)), api.ErrTree},
		{"kind -1", tree(num(1), step(-1)), api.ErrTree},
		{"no field", tree(field(1, 3)), api.ErrRange},
		{"no place", tree(field(-4, 0)), api.ErrRange},
		{"the port's field 1", tree(field(api.InPort, 1)), api.ErrRange},
		{"no field, then no kind", tree(field(9, 9), step(99)), api.ErrRange},
		{"no kind, then no field", tree(num(1), step(99), field(9, 9)), api.ErrTree},
		{"no field, and two are left", tree(num(1), field(9, 9)), api.ErrRange},
		{"R of a number is not looked at", tree(api.Push{Op: api.PNum, R: ref(9, 9)}), 0},
		{"R of a sum is not looked at", tree(num(1), num(1), api.Push{Op: api.PAdd, R: ref(9, 9)}), 0},
	} {
		at := func(thousands int) api.Fault {
			if c.want == 0 {
				return right
			}
			return fault(c.want, thousands)
		}
		tryEach(t, []change{
			{c.name + ", set", func(p *api.Plan) { p.Acts[1].Ops[0].E = c.e }, at(4001)},
			{c.name + ", port", func(p *api.Plan) { p.Acts[1].Ops[1].E = c.e }, at(4001)},
			{c.name + ", if", func(p *api.Plan) { p.Nodes[0].E = c.e }, at(6000)},
		})
	}
}

func TestTakes(t *testing.T) {
	two := []int{api.PAdd, api.PSub, api.PMul, api.PAnd, api.POr, api.PXor, api.PShl, api.PShr, api.PLess, api.PEq}
	want := map[int]int{api.PNum: 0, api.PRef: 0, api.PNot: 1}
	for _, op := range two {
		want[op] = 2
	}
	for _, op := range append([]int{math.MinInt, math.MaxInt}, seq(-300, 300)...) {
		w, ok := want[op]
		if !ok {
			w = -1
		}
		if got := Takes(op); got != w {
			t.Errorf("%d: %d, want %d", op, got, w)
		}
	}
}

// seq tells the numbers from low to high.
func seq(low, high int) []int {
	var l []int
	for n := low; n <= high; n++ {
		l = append(l, n)
	}
	return l
}

func TestEveryOperatorStandsInExpressions(t *testing.T) {
	for op := api.PAdd; op <= api.PEq; op++ {
		tryEach(t, []change{
			{"of two", func(p *api.Plan) { p.Nodes[0].E = tree(num(1), num(2), step(op)) }, right},
			{"of one", func(p *api.Plan) { p.Nodes[0].E = tree(num(1), step(op)) }, fault(api.ErrTree, 6000)},
		})
	}
}

func TestWidth(t *testing.T) {
	p := full()
	args := []int{3, 5}
	for _, c := range []struct {
		r    api.Ref
		want int
	}{
		{ref(0, 0), 8}, {ref(0, 1), 0}, {ref(0, -1), 0},
		{ref(1, 0), 4}, {ref(1, 1), 12}, {ref(1, 2), 16}, {ref(1, 3), 0},
		{ref(2, 0), 48}, {ref(2, 1), 8}, {ref(3, 0), 0},
		{ref(api.InMeta, 0), 4}, {ref(api.InMeta, 1), 48}, {ref(api.InMeta, 2), 0}, {ref(api.InMeta, -1), 0},
		{ref(api.InArg, 0), 3}, {ref(api.InArg, 1), 5}, {ref(api.InArg, 2), 0}, {ref(api.InArg, -1), 0},
		{ref(api.InPort, 0), 16}, {ref(api.InPort, 1), 0}, {ref(api.InPort, -1), 0},
		{ref(-4, 0), 0}, {ref(math.MinInt, 0), 0}, {ref(math.MaxInt, 0), 0},
		{ref(0, math.MinInt), 0}, {ref(0, math.MaxInt), 0},
		{ref(api.InMeta, math.MaxInt), 0}, {ref(api.InArg, math.MinInt), 0}, {ref(api.InPort, math.MaxInt), 0},
	} {
		if got := Width(p, c.r, args); got != c.want {
			t.Errorf("%v: %d, want %d", c.r, got, c.want)
		}
		if c.r.H == api.InArg {
			c.want = 0
		}
		if got := Width(p, c.r, nil); got != c.want {
			t.Errorf("%v without parameters: %d, want %d", c.r, got, c.want)
		}
	}
	if got := Width(api.Plan{}, ref(api.InPort, 0), nil); got != 16 {
		t.Errorf("the port of no plan: %d", got)
	}
}

// A plan need not be right: what it says of a field is told as it stands.
func TestWidthOfWrongPlans(t *testing.T) {
	p := api.Plan{Heads: times(9, api.Header{W: times(20, 99)}), Meta: []int{0, -7, 1, 2, 3, math.MaxInt}}
	for _, c := range []struct {
		r    api.Ref
		want int
	}{
		{ref(8, 19), 99}, {ref(8, 20), 0}, {ref(9, 0), 0},
		{ref(api.InMeta, 0), 0}, {ref(api.InMeta, 1), -7}, {ref(api.InMeta, 5), math.MaxInt},
		{ref(api.InArg, 4), 77},
	} {
		if got := Width(p, c.r, []int{1, 1, 1, 1, 77}); got != c.want {
			t.Errorf("%v: %d, want %d", c.r, got, c.want)
		}
	}
}

func TestWidths(t *testing.T) {
	p := full()
	keys := []api.Ref{ref(2, 0), ref(api.InPort, 0), ref(api.InArg, 0), ref(9, 9), ref(api.InMeta, 0), ref(2, 0)}
	want := []int{48, 16, 0, 0, 4, 48}
	// The kind and all else of a table is not looked at.
	if got := Widths(p, api.Table{Kind: 99, Keys: keys, Acts: []int{9}, Cap: -1}); !slices.Equal(got, want) {
		t.Errorf("%v, want %v", got, want)
	}
	if got := Widths(p, api.Table{}); len(got) != 0 {
		t.Errorf("no keys: %v", got)
	}
	// The widths are a list of their own.
	got := Widths(p, p.Tabs[0])
	got[0] = 77
	if p.Heads[0].W[0] != 8 || Widths(p, p.Tabs[0])[0] != 8 {
		t.Error("the answer shares memory with the plan")
	}
}

// flaws tells what may be wrong with a full plan, in the document's order.
func flaws() []change {
	return []change{
		{"headers", func(p *api.Plan) { p.Heads = append(p.Heads, times(4, api.Header{W: []int{8}})...) }, fault(api.ErrMany, -1)},
		{"header 0", func(p *api.Plan) { p.Heads[0].W = nil }, fault(api.ErrMany, 1000)},
		{"header 1", func(p *api.Plan) { p.Heads[1].W[1] = 49 }, fault(api.ErrWidth, 1001)},
		{"Meta", func(p *api.Plan) { p.Meta = append(p.Meta, 1, 1, 1) }, fault(api.ErrMany, -2)},
		{"Meta 0", func(p *api.Plan) { p.Meta[0] = 0 }, fault(api.ErrWidth, 2000)},
		{"Meta 1", func(p *api.Plan) { p.Meta[1] = 49 }, fault(api.ErrWidth, 2001)},
		{"states", func(p *api.Plan) { p.States = append(p.States, make([]api.State, 6)...) }, fault(api.ErrMany, -3)},
		{"state 0, Head", func(p *api.Plan) { p.States[0].Head = 99 }, fault(api.ErrRange, 3000)},
		{"state 0, Cases", func(p *api.Plan) { p.States[0].Cases = append(p.States[0].Cases, make([]api.Case, 3)...) }, fault(api.ErrMany, 3000)},
		{"state 0, On", func(p *api.Plan) { p.States[0].On = ref(api.InArg, 0) }, fault(api.ErrRange, 3000)},
		{"case 0, Mask", func(p *api.Plan) { p.States[0].Cases[0].Mask |= 1 << 60 }, fault(api.ErrWidth, 3000)},
		{"case 0, To", func(p *api.Plan) { p.States[0].Cases[0].To = 0 }, fault(api.ErrRound, 3000)},
		{"case 1, Value", func(p *api.Plan) { p.States[0].Cases[1].Value |= 1 << 30 }, fault(api.ErrWidth, 3000)},
		{"case 1, To", func(p *api.Plan) { p.States[0].Cases[1].To = 99 }, fault(api.ErrRange, 3000)},
		{"state 0, Else", func(p *api.Plan) { p.States[0].Else = 0 }, fault(api.ErrRound, 3000)},
		{"state 2, Head", func(p *api.Plan) { p.States[2].Head = -2 }, fault(api.ErrRange, 3002)},
		{"state 2, Else", func(p *api.Plan) { p.States[2].Else = 1 }, fault(api.ErrRound, 3002)},
		{"actions", func(p *api.Plan) { p.Acts = append(p.Acts, times(6, api.Action{W: []int{0}})...) }, fault(api.ErrMany, -4)},
		{"action 1, W", func(p *api.Plan) { p.Acts[1].W = append(p.Acts[1].W, 1, 1) }, fault(api.ErrMany, 4001)},
		{"action 1, a width", func(p *api.Plan) { p.Acts[1].W[1] = 49 }, fault(api.ErrWidth, 4001)},
		{"deed 0, R", func(p *api.Plan) { p.Acts[1].Ops[0].R = ref(api.InPort, 0) }, fault(api.ErrRange, 4001)},
		{"deed 0, E", func(p *api.Plan) { p.Acts[1].Ops[0].E = make([]api.Push, 9) }, fault(api.ErrMany, 4001)},
		{"deed 1, E", func(p *api.Plan) { p.Acts[1].Ops[1].E = tree(step(99)) }, fault(api.ErrTree, 4001)},
		{"deed 2, Head", func(p *api.Plan) { p.Acts[1].Ops[2].Head = 99 }, fault(api.ErrRange, 4001)},
		{"action 2, Ops", func(p *api.Plan) { p.Acts[2].Ops = append(p.Acts[2].Ops, make([]api.Op, 3)...) }, fault(api.ErrMany, 4002)},
		{"action 2, a kind", func(p *api.Plan) { p.Acts[2].Ops[1].Kind = 99 }, fault(api.ErrKind, 4002)},
		{"tables", func(p *api.Plan) { p.Tabs = append(p.Tabs, make([]api.Table, 3)...) }, fault(api.ErrMany, -5)},
		{"table 0, Keys", func(p *api.Plan) { p.Tabs[0].Keys = append(p.Tabs[0].Keys, ref(0, 0), ref(0, 0)) }, fault(api.ErrMany, 5000)},
		{"table 0, a key", func(p *api.Plan) { p.Tabs[0].Keys[0] = ref(99, 0) }, fault(api.ErrRange, 5000)},
		{"table 0, Kind", func(p *api.Plan) { p.Tabs[0].Kind = 99 }, fault(api.ErrKind, 5000)},
		{"table 0, Acts", func(p *api.Plan) { p.Tabs[0].Acts = nil }, fault(api.ErrMany, 5000)},
		{"table 0, Cap", func(p *api.Plan) { p.Tabs[0].Cap = 17 }, fault(api.ErrRange, 5000)},
		{"table 0, Args", func(p *api.Plan) { p.Tabs[0].Args[0] = 256 }, fault(api.ErrWidth, 5000)},
		{"table 1, Def", func(p *api.Plan) { p.Tabs[1].Def = 1 }, fault(api.ErrKind, 5001)},
		{"nodes", func(p *api.Plan) { p.Nodes = append(p.Nodes, make([]api.Node, 7)...) }, fault(api.ErrMany, -6)},
		{"node 0, E", func(p *api.Plan) { p.Nodes[0].E = tree(num(1), num(1)) }, fault(api.ErrTree, 6000)},
		{"node 0, Yes", func(p *api.Plan) { p.Nodes[0].Yes = 99 }, fault(api.ErrRange, 6000)},
		{"node 0, No", func(p *api.Plan) { p.Nodes[0].No = 0 }, fault(api.ErrRound, 6000)},
		{"node 1, N", func(p *api.Plan) { p.Nodes[1].N = 99 }, fault(api.ErrRange, 6001)},
		{"node 1, Yes", func(p *api.Plan) { p.Nodes[1].Yes = 1 }, fault(api.ErrRound, 6001)},
		{"node 2, Kind", func(p *api.Plan) { p.Nodes[2].Kind = 99 }, fault(api.ErrKind, 6002)},
		{"node 2, Yes", func(p *api.Plan) { p.Nodes[2].Yes = 2 }, fault(api.ErrRound, 6002)},
		{"node 2, No", func(p *api.Plan) { p.Nodes[2].No = -1 }, fault(api.ErrRange, 6002)},
		{"node 3, N", func(p *api.Plan) { p.Nodes[3].N = 1 }, fault(api.ErrMany, 6003)},
		{"out", func(p *api.Plan) { p.Out = append(p.Out, 99, 99, 99, 99, 99) }, fault(api.ErrMany, -7)},
		{"out 0", func(p *api.Plan) { p.Out[0] = 99 }, fault(api.ErrRange, 7000)},
		{"out 1", func(p *api.Plan) { p.Out = append(p.Out, p.Out[1]) }, fault(api.ErrTwice, 7002)},
	}
}

func TestCheckTellsTheFirst(t *testing.T) {
	l := flaws()
	tryEach(t, l)
	// The later ones are done first: what an earlier one does to the plan stays.
	for i, early := range l {
		for _, late := range l[i+1:] {
			p := full()
			late.do(&p)
			early.do(&p)
			if got := Check(p); got != early.want {
				t.Errorf("%s and %s: %v, want %v", early.name, late.name, got, early.want)
			}
		}
	}
	r := rand.New(rand.NewSource(8))
	for range 5000 {
		p, want, most := full(), right, 1+r.Intn(8)
		for i := len(l) - 1; i >= 0; i-- {
			if r.Intn(len(l)) < most {
				l[i].do(&p)
				want = l[i].want
			}
		}
		if got := Check(p); got != want {
			t.Fatalf("%v, want %v: %+v", got, want, p)
		}
	}
}
