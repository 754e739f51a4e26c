package walk

import (
	"math"
	"slices"
	"testing"

	"shuntyard/api"
	"shuntyard/plan"
)

func fault(code, at int) api.Fault { return api.Fault{Code: code, At: at} }

var right = fault(0, 0)

func ref(h, f int) api.Ref { return api.Ref{H: h, F: f} }

// take tells a state that takes a header, and leads to one place alone.
func take(head, to int) api.State { return api.State{Head: head, Else: to} }

// look tells a state that takes a header and looks at a field: to all of ways but the last by Cases, to that one by Else.
func look(head int, on api.Ref, ways ...int) api.State {
	s := api.State{Head: head, On: on, Else: ways[len(ways)-1]}
	for i, to := range ways[:len(ways)-1] {
		s.Cases = append(s.Cases, api.Case{Value: uint64(i), Mask: 15, To: to})
	}
	return s
}

// parser tells a plan of six headers, whose bytes are 1, 2, 4, 8, 16 and 32, with two fields beside them and those states.
func parser(states ...api.State) api.Plan {
	return api.Plan{
		Heads: []api.Header{
			{W: []int{8}},
			{W: []int{4, 12}},
			{W: []int{32}},
			{W: []int{48, 8, 8}},
			{W: []int{32, 32, 32, 32}},
			{W: []int{32, 32, 32, 32, 32, 32, 32, 32}},
		},
		Meta:   []int{4, 48},
		States: states,
	}
}

// at tells the Sets of a place that some way comes to.
func at(must, may uint64, least, most int) Sets {
	return Sets{Must: must, May: may, Least: least, Most: most, There: true}
}

var (
	start   = at(0, 0, 0, 0)
	nowhere = Sets{}
)

// told is what Walk tells of the states.
type told struct {
	name   string
	states []api.State
	want   []Sets
}

func tryTold(t *testing.T, l []told) {
	t.Helper()
	for _, c := range l {
		got, f := Walk(parser(c.states...))
		if f != right || !slices.Equal(got, c.want) {
			t.Errorf("%s: %v %v, want %v", c.name, got, f, c.want)
		}
	}
}

// wrong is what Walk finds wrong with the states.
type wrong struct {
	name   string
	states []api.State
	want   api.Fault
}

func tryWrong(t *testing.T, l []wrong) {
	t.Helper()
	for _, c := range l {
		got, f := Walk(parser(c.states...))
		if f != c.want || len(got) != 0 && c.want != right {
			t.Errorf("%s: %v %v, want %v", c.name, got, f, c.want)
		}
	}
}

func TestWalkExample(t *testing.T) {
	p := api.Plan{
		Heads: []api.Header{{W: []int{8}}, {W: []int{16}}},
		States: []api.State{
			{Head: 0, Cases: []api.Case{{Value: 1, Mask: 1, To: 1}}, Else: api.Accept},
			{Head: 1, Else: api.Accept},
		},
	}
	got, f := Walk(p)
	if want := []Sets{start, at(1, 1, 1, 1), at(1, 3, 1, 3)}; f != right || !slices.Equal(got, want) {
		t.Errorf("%v %v, want %v", got, f, want)
	}
}

func TestWalkOneState(t *testing.T) {
	tryTold(t, []told{
		{"to Accept", []api.State{take(0, api.Accept)}, []Sets{start, at(1, 1, 1, 1)}},
		{"takes nothing", []api.State{take(-1, api.Accept)}, []Sets{start, start}},
		{"to Reject", []api.State{take(0, api.Reject)}, []Sets{start, nowhere}},
		{"the last header", []api.State{take(5, api.Accept)}, []Sets{start, at(32, 32, 32, 32)}},
		{"to Reject by a case", []api.State{look(3, ref(3, 0), api.Reject, api.Accept)}, []Sets{start, at(8, 8, 8, 8)}},
		{"to Accept by a case", []api.State{look(3, ref(3, 0), api.Accept, api.Reject)}, []Sets{start, at(8, 8, 8, 8)}},
		{"to Accept by the last of 4 cases", []api.State{look(3, ref(3, 0), api.Reject, api.Reject, api.Reject, api.Accept, api.Reject)}, []Sets{start, at(8, 8, 8, 8)}},
		{"all to Reject", []api.State{look(3, ref(3, 0), api.Reject, api.Reject)}, []Sets{start, nowhere}},
	})
	for n, size := range []int{1, 2, 4, 8, 16, 32} {
		bit := uint64(size) // the sizes of the headers are those bits, too
		tryTold(t, []told{{"header by header", []api.State{take(n, api.Accept)}, []Sets{start, at(bit, bit, size, size)}}})
	}
	got, f := Walk(api.Plan{States: []api.State{take(-1, api.Accept)}})
	if want := []Sets{start, start}; f != right || !slices.Equal(got, want) {
		t.Errorf("without headers: %v %v, want %v", got, f, want)
	}
}

func TestWalkWays(t *testing.T) {
	tryTold(t, []told{
		{"one behind the other", []api.State{take(2, 1), take(-1, 2), take(0, api.Accept)},
			[]Sets{start, at(4, 4, 4, 4), at(4, 4, 4, 4), at(5, 5, 5, 5)}},
		{"two ways that come together", []api.State{look(0, ref(0, 0), 1, 2), take(1, 3), take(2, 3), take(3, api.Accept)},
			[]Sets{start, at(1, 1, 1, 1), at(1, 1, 1, 1), at(1, 7, 3, 5), at(9, 15, 11, 13)}},
		{"the longer way comes first", []api.State{look(0, ref(0, 0), 1, 2), take(2, 3), take(1, 3), take(3, api.Accept)},
			[]Sets{start, at(1, 1, 1, 1), at(1, 1, 1, 1), at(1, 7, 3, 5), at(9, 15, 11, 13)}},
		{"one header by two states", []api.State{look(0, ref(0, 0), 1, 2), take(4, api.Accept), take(4, api.Accept)},
			[]Sets{start, at(1, 1, 1, 1), at(1, 1, 1, 1), at(17, 17, 17, 17)}},
		{"another header on each way", []api.State{look(-1, ref(api.InPort, 0), 1, 3), take(0, 2), take(-1, 4), take(1, 4), take(-1, api.Accept)},
			[]Sets{start, start, at(1, 1, 1, 1), start, at(0, 3, 1, 2), at(0, 3, 1, 2)}},
		{"to one state by a case and by Else", []api.State{look(1, ref(1, 1), 1, 1, 1), take(-1, api.Accept)},
			[]Sets{start, at(2, 2, 2, 2), at(2, 2, 2, 2)}},
		{"three ways to Accept, one of them to Reject as well", []api.State{
			look(0, ref(0, 0), 1, 2, 3, api.Accept), take(1, api.Accept), look(2, ref(2, 0), api.Reject, api.Accept), take(3, api.Reject)},
			[]Sets{start, at(1, 1, 1, 1), at(1, 1, 1, 1), at(1, 1, 1, 1), at(1, 7, 1, 5)}},
		{"taken on all ways but one", []api.State{look(-1, ref(api.InMeta, 0), 1, 2, 3, 4), take(1, 4), take(1, 4), take(1, 4), take(-1, api.Accept)},
			[]Sets{start, start, start, start, at(0, 2, 0, 2), at(0, 2, 0, 2)}},
		{"eight states, six headers", []api.State{take(0, 1), take(1, 2), take(2, 3), take(3, 4), take(4, 5), take(5, 6), take(-1, 7), take(-1, api.Accept)},
			[]Sets{start, at(1, 1, 1, 1), at(3, 3, 3, 3), at(7, 7, 7, 7), at(15, 15, 15, 15), at(31, 31, 31, 31), at(63, 63, 63, 63), at(63, 63, 63, 63), at(63, 63, 63, 63)}},
	})
}

// A header may have 32 bytes, and there may be 6 of them.
func TestWalkMostBytes(t *testing.T) {
	p := api.Plan{}
	for n := range 6 {
		p.Heads = append(p.Heads, api.Header{W: []int{32, 32, 32, 32, 32, 32, 32, 32}})
		p.States = append(p.States, look(n, ref(n, 7), n+1, api.Accept))
	}
	p.States = append(p.States, take(-1, api.Accept))
	got, f := Walk(p)
	if want := at(1, 63, 32, 192); f != right || got[7] != want {
		t.Errorf("%v %v, want %v last", got, f, want)
	}
	if want := at(63, 63, 192, 192); f != right || got[6] != want {
		t.Errorf("%v %v, want %v at the state 6", got, f, want)
	}
}

// Which case fits is not asked: a way goes to where any of them leads, and to where Else does.
func TestWalkGoesAllCases(t *testing.T) {
	always := api.State{Head: 0, On: ref(0, 0), Cases: []api.Case{{To: 1}, {To: 2}}, Else: 3}
	tryTold(t, []told{{"behind a case that always fits", []api.State{always, take(1, api.Reject), take(2, api.Reject), take(3, api.Accept)},
		[]Sets{start, at(1, 1, 1, 1), at(1, 1, 1, 1), at(1, 1, 1, 1), at(9, 9, 9, 9)}}})
}

func TestWalkWhereNoWayComes(t *testing.T) {
	tryTold(t, []told{
		{"a state is passed by", []api.State{take(0, 2), take(1, 2), take(2, api.Accept)},
			[]Sets{start, nowhere, at(1, 1, 1, 1), at(5, 5, 5, 5)}},
		{"from there to another one", []api.State{take(0, api.Accept), take(1, 2), take(2, api.Accept)},
			[]Sets{start, nowhere, nowhere, at(1, 1, 1, 1)}},
		{"it takes what was taken", []api.State{take(0, api.Accept), take(0, api.Accept)},
			[]Sets{start, nowhere, at(1, 1, 1, 1)}},
		{"it looks at what was not taken", []api.State{take(0, api.Accept), look(1, ref(2, 0), api.Accept, 2), take(2, api.Accept)},
			[]Sets{start, nowhere, nowhere, at(1, 1, 1, 1)}},
		{"it alone leads to Accept", []api.State{take(0, api.Reject), take(1, api.Accept)},
			[]Sets{start, nowhere, nowhere}},
		{"what it takes is taken behind it", []api.State{take(0, 2), take(2, 2), look(2, ref(0, 0), 3, api.Accept), take(1, api.Accept)},
			[]Sets{start, nowhere, at(1, 1, 1, 1), at(5, 5, 5, 5), at(5, 7, 5, 7)}},
	})
}

func TestWalkTwice(t *testing.T) {
	tryWrong(t, []wrong{
		{"at once", []api.State{take(0, 1), take(0, api.Accept)}, fault(api.ErrTwice, 3001)},
		{"to Reject", []api.State{take(0, 1), take(0, api.Reject)}, fault(api.ErrTwice, 3001)},
		{"later", []api.State{take(5, 1), take(1, 2), take(-1, 3), take(5, api.Accept)}, fault(api.ErrTwice, 3003)},
		{"on some way alone", []api.State{look(0, ref(0, 0), 1, 2), take(1, 2), take(1, api.Accept)}, fault(api.ErrTwice, 3002)},
		{"on some way alone, by Else", []api.State{look(0, ref(0, 0), 2, 1), take(1, 2), take(1, api.Accept)}, fault(api.ErrTwice, 3002)},
		{"in the last of eight", []api.State{take(0, 1), take(1, 2), take(2, 3), take(3, 4), take(4, 5), take(5, 6), take(-1, 7), take(3, api.Accept)}, fault(api.ErrTwice, 3007)},
		{"nothing is taken twice", []api.State{take(-1, 1), take(-1, api.Accept)}, right},
		{"on ways of their own", []api.State{look(0, ref(0, 0), 1, 2), take(1, api.Accept), take(1, api.Accept)}, right},
	})
}

func TestWalkGone(t *testing.T) {
	late := []api.State{take(1, api.Accept)}
	tryWrong(t, []wrong{
		{"never taken", []api.State{look(0, ref(1, 0), api.Accept, api.Reject)}, fault(api.ErrGone, 3000)},
		{"taken behind", append([]api.State{look(0, ref(1, 1), 1, api.Reject)}, late...), fault(api.ErrGone, 3000)},
		{"taken on one way alone", []api.State{look(0, ref(0, 0), 1, 2), take(1, 2), look(2, ref(1, 0), api.Accept, api.Accept)}, fault(api.ErrGone, 3002)},
		{"taken on another way", []api.State{look(0, ref(0, 0), 1, 2), take(1, api.Accept), look(2, ref(1, 0), api.Accept, api.Accept)}, fault(api.ErrGone, 3002)},
		{"nothing taken at all", []api.State{look(-1, ref(0, 0), api.Accept, api.Accept)}, fault(api.ErrGone, 3000)},
		{"the last header", []api.State{take(0, 1), look(1, ref(5, 7), api.Accept, api.Accept)}, fault(api.ErrGone, 3001)},
		{"its own one", []api.State{look(5, ref(5, 7), api.Accept, api.Accept)}, right},
		{"its own one, on two ways", []api.State{look(0, ref(0, 0), 1, 2), take(1, 2), look(2, ref(2, 0), api.Accept, api.Accept)}, right},
		{"one taken ahead", []api.State{take(0, 1), take(1, 2), look(2, ref(0, 0), api.Accept, api.Accept)}, right},
		{"one taken ahead, and none here", []api.State{take(0, 1), look(-1, ref(0, 0), api.Accept, api.Accept)}, right},
		{"taken on both ways", []api.State{look(0, ref(0, 0), 1, 2), take(1, 3), take(1, 3), look(2, ref(1, 1), api.Accept, api.Accept)}, right},
		{"beside headers", []api.State{look(-1, ref(api.InMeta, 1), api.Accept, api.Accept)}, right},
		{"the port", []api.State{look(-1, ref(api.InPort, 0), api.Accept, api.Accept)}, right},
		{"without cases it is not looked at", []api.State{{Head: 0, On: ref(1, 0), Else: api.Accept}}, right},
		{"without cases it may be anything", []api.State{{Head: 0, On: ref(math.MaxInt, math.MinInt), Cases: []api.Case{}, Else: api.Accept}}, right},
		{"without cases it may be below all", []api.State{{Head: -1, On: ref(math.MinInt, -1), Else: api.Accept}}, right},
	})
}

func TestWalkOrderOfFaults(t *testing.T) {
	gone, again := look(1, ref(2, 0), 2, 2), take(0, 2)
	both := look(0, ref(2, 0), 2, 2)
	tryWrong(t, []wrong{
		{"both of one state", []api.State{take(0, 1), both, take(1, api.Accept)}, fault(api.ErrTwice, 3001)},
		{"gone, then twice", []api.State{take(0, 1), gone, take(0, api.Accept)}, fault(api.ErrGone, 3001)},
		{"twice, then gone", []api.State{take(0, 1), again, look(1, ref(2, 0), api.Accept, api.Reject)}, fault(api.ErrTwice, 3001)},
		{"the first of two", []api.State{take(0, 1), again, take(0, api.Accept)}, fault(api.ErrTwice, 3001)},
		{"no way comes to the first", []api.State{take(0, 2), gone, take(0, api.Accept)}, fault(api.ErrTwice, 3002)},
	})
}

// What plan.Check tells comes ahead of all, wherever it is.
func TestWalkChecks(t *testing.T) {
	for _, states := range [][]api.State{
		{take(0, 1), take(1, api.Accept)},
		{take(0, 1), take(0, api.Accept)},
		{look(0, ref(1, 0), 1, api.Accept), take(1, api.Accept)},
	} {
		for _, c := range []struct {
			name string
			do   func(p *api.Plan)
			want api.Fault
		}{
			{"too many headers", func(p *api.Plan) { p.Heads = append(p.Heads, p.Heads[0]) }, fault(api.ErrMany, -1)},
			{"a header without fields", func(p *api.Plan) { p.Heads[1].W = nil }, fault(api.ErrMany, 1001)},
			{"a header of no whole bytes", func(p *api.Plan) { p.Heads[5].W[0] = 31 }, fault(api.ErrWidth, 1005)},
			{"a field of no bits", func(p *api.Plan) { p.Meta[1] = 0 }, fault(api.ErrWidth, 2001)},
			{"no states", func(p *api.Plan) { p.States = nil }, fault(api.ErrMany, -3)},
			{"nine states", func(p *api.Plan) { p.States = slices.Repeat(p.States[1:], 9) }, fault(api.ErrMany, -3)},
			{"no header", func(p *api.Plan) { p.States[1].Head = 6 }, fault(api.ErrRange, 3001)},
			{"a header below -1", func(p *api.Plan) { p.States[1].Head = math.MinInt }, fault(api.ErrRange, 3001)},
			{"to itself", func(p *api.Plan) { p.States[1].Else = 1 }, fault(api.ErrRound, 3001)},
			{"back", func(p *api.Plan) { p.States[1].Else = 0 }, fault(api.ErrRound, 3001)},
			{"behind the last", func(p *api.Plan) { p.States[1].Else = 2 }, fault(api.ErrRange, 3001)},
			{"behind Reject", func(p *api.Plan) { p.States[1].Else = api.Reject + 1 }, fault(api.ErrRange, 3001)},
			{"far away", func(p *api.Plan) { p.States[1].Else = math.MaxInt }, fault(api.ErrRange, 3001)},
			{"no field", func(p *api.Plan) { p.States[1] = look(1, ref(1, 2), api.Accept, api.Accept) }, fault(api.ErrRange, 3001)},
			{"a parameter", func(p *api.Plan) { p.States[1] = look(1, ref(api.InArg, 0), api.Accept, api.Accept) }, fault(api.ErrRange, 3001)},
			{"a deed of no kind", func(p *api.Plan) { p.Acts = []api.Action{{Ops: []api.Op{{}}}} }, fault(api.ErrKind, 4000)},
			{"a table of no kind", func(p *api.Plan) { p.Tabs = []api.Table{{Keys: []api.Ref{ref(0, 0)}}} }, fault(api.ErrKind, 5000)},
			{"a node of no kind", func(p *api.Plan) { p.Nodes = []api.Node{{}} }, fault(api.ErrKind, 6000)},
			{"twice out", func(p *api.Plan) { p.Out = []int{1, 0, 1} }, fault(api.ErrTwice, 7002)},
		} {
			p := parser(slices.Clone(states)...)
			c.do(&p)
			if f := plan.Check(p); f != c.want {
				t.Fatalf("%s: plan.Check tells %v, want %v", c.name, f, c.want)
			}
			if got, f := Walk(p); f != c.want || len(got) != 0 {
				t.Errorf("%s: %v %v, want %v", c.name, got, f, c.want)
			}
		}
	}
	if got, f := Walk(api.Plan{}); f != fault(api.ErrMany, -3) || len(got) != 0 {
		t.Errorf("nothing: %v %v", got, f)
	}
}

// What is done behind the parser does not count: only what the states take does.
func TestWalkLooksAtStatesAlone(t *testing.T) {
	p := parser(take(0, api.Accept))
	p.Acts = []api.Action{{Ops: []api.Op{{Kind: api.OOn, Head: 1}, {Kind: api.OOff, Head: 0}}}}
	p.Tabs = []api.Table{{Kind: api.KExact, Keys: []api.Ref{ref(5, 0)}, Acts: []int{0}}}
	p.Nodes = []api.Node{{Kind: api.NDo, Yes: 1}, {Kind: api.NTable, Yes: 2}}
	p.Out = []int{4}
	got, f := Walk(p)
	if want := []Sets{start, at(1, 1, 1, 1)}; f != right || !slices.Equal(got, want) {
		t.Errorf("%v %v, want %v", got, f, want)
	}
}
