package twin_test

import (
	"bytes"
	"math"
	"reflect"
	"slices"
	"testing"

	"shuntyard/api"
	"shuntyard/lower"
	"shuntyard/rig"
	"shuntyard/twin"
)

func fault(code, at int) api.Fault { return api.Fault{Code: code, At: at} }

var right = fault(0, 0)

func ref(h, f int) api.Ref { return api.Ref{H: h, F: f} }

var (
	first  = ref(0, 0)
	inPort = ref(api.InPort, 0)
)

// num, get, said and op tell steps of an expression.
func num(n uint64) api.Push  { return api.Push{Op: api.PNum, N: n} }
func get(r api.Ref) api.Push { return api.Push{Op: api.PRef, R: r} }
func said(n int) api.Push    { return get(ref(api.InArg, n)) }
func op(kind int) api.Push   { return api.Push{Op: kind} }

func set(r api.Ref, e ...api.Push) api.Op { return api.Op{Kind: api.OSet, R: r, E: e} }
func port(e ...api.Push) api.Op           { return api.Op{Kind: api.OPort, E: e} }

// The yard's actions.
const (
	more  = 0 // the first byte is so much more
	gone  = 1 // nowhere
	leads = 2 // by that port, with a second header of that number
	still = 3 // nothing
)

// The yard's tables.
const (
	byWhole = 0 // of the first byte
	byStart = 1 // of the first byte
	byMask  = 2 // of the first byte, and the port that the packet came in by
)

// yard tells a plan of two headers of a byte, the first of which is taken, and of three tables, one of each kind, that are asked one behind the other.
func yard() api.Plan {
	return api.Plan{
		Heads:  []api.Header{{W: []int{8}}, {W: []int{8}}},
		States: []api.State{{Head: 0, Else: api.Accept}},
		Acts: []api.Action{
			more:  {W: []int{8}, Ops: []api.Op{set(first, get(first), said(0), op(api.PAdd))}},
			gone:  {Ops: []api.Op{{Kind: api.ODrop}}},
			leads: {W: []int{16, 8}, Ops: []api.Op{port(said(0)), {Kind: api.OOn, Head: 1}, set(ref(1, 0), said(1))}},
			still: {},
		},
		Tabs: []api.Table{
			byWhole: {Kind: api.KExact, Keys: []api.Ref{first}, Acts: []int{more, gone}, Cap: 2, Def: more, Args: []uint64{1}},
			byStart: {Kind: api.KPrefix, Keys: []api.Ref{first}, Acts: []int{leads, gone, still}, Cap: 3, Def: still},
			byMask:  {Kind: api.KTernary, Keys: []api.Ref{first, inPort}, Acts: []int{still, more, leads, gone}, Cap: 4, Def: still},
		},
		Nodes: []api.Node{
			{Kind: api.NTable, N: byWhole, Yes: 1},
			{Kind: api.NTable, N: byStart, Yes: 2},
			{Kind: api.NTable, N: byMask, Yes: 3},
		},
		Out: []int{0, 1},
	}
}

// whole, start and masked tell entries of the yard's tables.
func whole(key uint64, act int, args ...uint64) api.Entry {
	return api.Entry{Keys: []uint64{key}, Act: act, Args: args}
}

func start(key uint64, long, act int, args ...uint64) api.Entry {
	return api.Entry{Keys: []uint64{key}, Len: long, Act: act, Args: args}
}

func masked(keys, masks [2]uint64, prio, act int, args ...uint64) api.Entry {
	return api.Entry{Keys: keys[:], Masks: masks[:], Prio: prio, Act: act, Args: args}
}

// says tells an E that says something and is for nothing.
func says(act int, args ...uint64) api.Entry { return api.Entry{Act: act, Args: args} }

func send(port int, b ...byte) api.Step { return api.Step{Kind: api.SSend, B: b, Port: port} }

func step(kind, tab int, e api.Entry) api.Step { return api.Step{Kind: kind, Tab: tab, E: e} }

func read(tab int) api.Step { return api.Step{Kind: api.SRead, Tab: tab} }

// sent tells the reply to a packet that goes out, nowhere that to one that does not.
func sent(port int, b ...byte) api.Reply { return api.Reply{R: api.Result{Port: port, Bytes: b}} }

var nowhere = sent(-1)

func told(code int) api.Reply { return api.Reply{Code: code} }

// has tells the reply to SRead of a table.
func has(act int, args []uint64, l ...api.Entry) api.Reply {
	return api.Reply{Entries: l, Default: api.Hit{Act: act, Args: args}}
}

// alike asks what Same does, without it: a list without elements is left out of both.
func alike(a, b any) bool {
	return reflect.DeepEqual(bare(reflect.ValueOf(a)), bare(reflect.ValueOf(b)))
}

// bare tells a value as plain lists, in which nil and empty are the same.
func bare(v reflect.Value) any {
	l := []any{}
	switch v.Kind() {
	case reflect.Struct:
		for i := range v.NumField() {
			l = append(l, bare(v.Field(i)))
		}
	case reflect.Slice:
		for i := range v.Len() {
			l = append(l, bare(v.Index(i)))
		}
	default:
		return v.Interface()
	}
	return l
}

// tester is a Twin that is asked, with a face of the test that has no Run of its own.
type tester struct {
	testing.TB
	*twin.Twin
}

// twins tells a Twin of a plan that there is nothing wrong with.
func twins(t *testing.T, p api.Plan) tester {
	t.Helper()
	w, f := twin.New(p)
	if f != right || w == nil {
		t.Fatalf("New tells %v %v", w, f)
	}
	return tester{t, w}
}

// pair is a step, and the reply to it.
type pair struct {
	s    api.Step
	want api.Reply
}

// steps and replies tell those of pairs.
func steps(l []pair) []api.Step {
	var out []api.Step
	for _, x := range l {
		out = append(out, x.s)
	}
	return out
}

func replies(l []pair) []api.Reply {
	var out []api.Reply
	for _, x := range l {
		out = append(out, x.want)
	}
	return out
}

func (w tester) wantDo(want api.Reply, s api.Step) {
	w.Helper()
	if got := w.Do(s); !alike(got, want) {
		w.Errorf("Do of %+v: %+v, want %+v", s, got, want)
	}
}

func (w tester) wantPlain(want api.Reply, s api.Step) {
	w.Helper()
	if got := w.Plain(s); !alike(got, want) {
		w.Errorf("Plain of %+v: %+v, want %+v", s, got, want)
	}
}

// wantBoth asks for the replies of Do and of Plain, each to all steps, one behind the other.
func (w tester) wantBoth(l ...pair) {
	w.Helper()
	for _, x := range l {
		w.wantDo(x.want, x.s)
	}
	for _, x := range l {
		w.wantPlain(x.want, x.s)
	}
}

// wantRun asks for the replies of Run.
func (w tester) wantRun(l ...pair) {
	w.Helper()
	got, f := w.Run(steps(l))
	if f != right || len(got) != len(l) {
		w.Fatalf("%v, want none; %d replies, want %d", f, len(got), len(l))
	}
	for i, x := range l {
		if !alike(got[i], x.want) {
			w.Errorf("%d, %+v: %+v, want %+v", i, x.s, got[i], x.want)
		}
	}
}

// wantFault asks for a fault of Run, with which there are no replies.
func (w tester) wantFault(want api.Fault, l ...api.Step) {
	w.Helper()
	if got, f := w.Run(l); f != want || len(got) != 0 {
		w.Errorf("%v, want %v; %+v", f, want, got)
	}
}

// tables tells what the yard's tables have, by one way.
func tables(do func(api.Step) api.Reply) []api.Reply {
	var l []api.Reply
	for tab := range 3 {
		l = append(l, do(read(tab)))
	}
	return l
}

// script tells steps of each kind, done and refused, of a new yard.
func script() []pair {
	long := bytes.Repeat([]byte{5}, api.MaxPacket+1)
	byPort := masked([2]uint64{0, 3}, [2]uint64{0, 0xFFFF}, 9, gone)
	return []pair{
		{read(byWhole), has(more, []uint64{1})},
		{read(byStart), has(still, nil)},
		{send(3, 5, 9), sent(0, 6, 9)},
		{send(3), nowhere},
		{step(api.SAdd, byWhole, whole(5, gone)), told(0)},
		{step(api.SAdd, byWhole, whole(5, more, 7)), told(api.ErrTwice)},
		{send(3, 5, 9), nowhere},
		{send(3, 4, 9), sent(0, 5, 9)},
		{step(api.SChange, byWhole, whole(5, more, 250)), told(0)},
		{step(api.SChange, byWhole, whole(6, gone)), told(api.ErrNone)},
		{send(3, 5, 9), sent(0, 255, 9)},
		{step(api.SDefault, byWhole, says(more, 2)), told(0)},
		{step(api.SDefault, byWhole, says(still)), told(api.ErrKind)},
		{read(byWhole), has(more, []uint64{2}, whole(5, more, 250))},
		{send(3, 4, 9), sent(0, 6, 9)},
		{step(api.SAdd, byStart, start(0x80, 1, leads, 0xFFFF, 7)), told(0)},
		{send(3, 0x80, 9), sent(0xFFFF, 0x82, 7, 9)},
		{step(api.SAdd, byMask, byPort), told(0)},
		{step(api.SAdd, byMask, masked([2]uint64{1, 0}, [2]uint64{1, 0}, 9, still)), told(api.ErrClash)},
		{read(byMask), has(still, nil, byPort)},
		{send(3, 4, 9), nowhere},
		{send(2, 4, 9), sent(0, 6, 9)},
		{step(api.SDrop, byWhole, whole(5, gone)), told(0)},
		{step(api.SDrop, byWhole, whole(5, gone)), told(api.ErrNone)},
		{send(0xFFFF, 5), sent(0, 7)},
		{send(-1, 5), told(api.ErrRange)},
		{send(0x10000, 5), told(api.ErrRange)},
		{send(0, long...), told(api.ErrLong)},
		{send(-1, long...), told(api.ErrLong)},
		{send(0, long[1:]...), sent(0, append([]byte{7}, long[2:]...)...)},
		{read(3), told(api.ErrRange)},
		{step(api.SAdd, -1, whole(5, gone)), told(api.ErrRange)},
		{step(api.SDefault, math.MaxInt, says(gone)), told(api.ErrRange)},
		{api.Step{}, told(api.ErrKind)},
		{api.Step{Kind: 7, Tab: 9}, told(api.ErrKind)},
		{api.Step{Kind: math.MinInt}, told(api.ErrKind)},
		{step(api.SAdd, byWhole, says(gone)), told(api.ErrMany)},
		{step(api.SAdd, byWhole, start(5, 8, gone)), told(api.ErrForm)},
		{step(api.SAdd, byWhole, whole(256, gone)), told(api.ErrWidth)},
	}
}

func TestExampleOfTheDocument(t *testing.T) {
	w := twins(t, api.Plan{
		Heads:  []api.Header{{W: []int{8}}},
		States: []api.State{{Head: 0, Else: api.Accept}},
		Acts:   []api.Action{{W: []int{8}, Ops: []api.Op{set(first, get(first), said(0), op(api.PAdd))}}},
		Tabs:   []api.Table{{Kind: api.KExact, Keys: []api.Ref{first}, Acts: []int{0}, Cap: 1, Args: []uint64{1}}},
		Nodes:  []api.Node{{Kind: api.NTable, N: 0, Yes: 1}},
		Out:    []int{0},
	})
	w.wantRun(
		pair{send(0, 7, 9), sent(0, 8, 9)},
		pair{step(api.SDefault, 0, says(0, 3)), told(0)},
		pair{step(api.SAdd, 0, whole(7, 0, 1)), told(0)},
		pair{send(0, 7, 9), sent(0, 8, 9)},
		pair{send(0, 8, 9), sent(0, 11, 9)},
		pair{send(0), nowhere},
	)
}

func TestBothWays(t *testing.T) {
	twins(t, yard()).wantBoth(script()...)
	twins(t, yard()).wantRun(script()...)
}

// A script may come in pieces of whatever length.
func TestRunPieceByPiece(t *testing.T) {
	for _, piece := range []int{1, 2, 5, 30} {
		w := twins(t, yard())
		for l := range slices.Chunk(script(), piece) {
			w.wantRun()
			w.wantRun(l...)
		}
	}
}

func TestWrongPlans(t *testing.T) {
	change := func(do func(p *api.Plan)) api.Plan {
		p := yard()
		do(&p)
		return p
	}
	for _, s := range []struct {
		name string
		p    api.Plan
		want api.Fault
	}{
		{"none", api.Plan{}, fault(api.ErrMany, -3)},
		{"out", change(func(p *api.Plan) { p.Out[1] = 2 }), fault(api.ErrRange, 7001)},
		{"what is said", change(func(p *api.Plan) { p.Tabs[1].Args = []uint64{1} }), fault(api.ErrMany, 5001)},
		{"taken twice", change(func(p *api.Plan) {
			p.States = []api.State{{Head: 0, Else: 1}, {Head: 0, Else: api.Accept}}
		}), fault(api.ErrTwice, 3001)},
		{"looked at", change(func(p *api.Plan) {
			p.States[0].On, p.States[0].Cases = ref(1, 0), []api.Case{{To: api.Accept}}
		}), fault(api.ErrGone, 3000)},
		{"a key", change(func(p *api.Plan) { p.Tabs[2].Keys[0] = ref(1, 0) }), fault(api.ErrGone, 6002)},
		{"set", change(func(p *api.Plan) { p.Acts[more].Ops[0].R = ref(1, 0) }), fault(api.ErrGone, 6000)},
	} {
		if w, f := twin.New(s.p); w != nil || f != s.want {
			t.Errorf("%s: %v %v, want %v", s.name, w, f, s.want)
		}
		if _, f := rig.New(s.p); f != s.want {
			t.Errorf("%s: a Rig tells %v, want %v", s.name, f, s.want)
		}
	}
}

func TestProgram(t *testing.T) {
	for _, p := range []api.Plan{yard(), {States: []api.State{{Head: -1, Else: api.Accept}}}} {
		w := twins(t, p)
		want, _ := lower.Lower(p)
		got := w.Program()
		if !alike(got, want) {
			t.Errorf("%v, want %v", got, want)
		}
		clear(got.Code)
		clear(got.Tabs)
		w.wantRun(pair{send(0), w.Plain(send(0))})
		if again := w.Program(); !alike(again, want) {
			t.Errorf("again: %v, want %v", again, want)
		}
	}
}

// Do and Plain have tables of their own.
func TestTablesApart(t *testing.T) {
	w := twins(t, yard())
	add, set := step(api.SAdd, byWhole, whole(5, gone)), step(api.SDefault, byStart, says(leads, 2, 3))
	w.wantDo(told(0), add)
	w.wantPlain(told(0), set)
	w.wantDo(nowhere, send(3, 5))
	w.wantPlain(sent(2, 6, 3), send(3, 5))
	w.wantDo(sent(0, 7), send(3, 6))
	w.wantDo(has(more, []uint64{1}, whole(5, gone)), read(byWhole))
	w.wantPlain(has(more, []uint64{1}), read(byWhole))
	w.wantDo(has(still, nil), read(byStart))
	w.wantPlain(has(leads, []uint64{2, 3}), read(byStart))
	w.wantPlain(told(0), add)
	w.wantDo(told(0), set)
	w.wantRun(
		pair{send(3, 5), nowhere},
		pair{send(3, 6), sent(2, 7, 3)},
		pair{read(byWhole), has(more, []uint64{1}, whole(5, gone))},
		pair{read(byStart), has(leads, []uint64{2, 3})},
	)
}

// Twins of one plan know nothing of each other.
func TestTwinsApart(t *testing.T) {
	p := yard()
	a, b := twins(t, p), twins(t, p)
	a.wantRun(pair{step(api.SAdd, byWhole, whole(5, gone)), told(0)})
	b.wantRun(pair{read(byWhole), has(more, []uint64{1})}, pair{send(3, 5), sent(0, 6)})
	a.wantRun(pair{send(3, 5), nowhere})
}

// Of too many steps none is done, whatever they are.
func TestTooMany(t *testing.T) {
	w := twins(t, yard())
	l := slices.Repeat([]api.Step{step(api.SDefault, byWhole, says(more, 9))}, api.MaxActsDo+1)
	w.wantFault(fault(api.ErrMany, -1), l...)
	w.wantFault(fault(api.ErrMany, -1), make([]api.Step, api.MaxActsDo+1)...)
	w.wantFault(fault(api.ErrMany, -1), make([]api.Step, 5*api.MaxActsDo)...)
	w.wantBoth(pair{read(byWhole), has(more, []uint64{1})})
	w.wantDo(told(0), step(api.SDefault, byStart, says(gone)))
	w.wantFault(fault(api.ErrMany, -1), append(l, send(3, 5))...)
	w.wantPlain(has(more, []uint64{1}), read(byWhole))
}

func TestAsManyAsMayBe(t *testing.T) {
	var l []pair
	for i := range api.MaxActsDo / 4 {
		n := uint64(i)
		l = append(l,
			pair{step(api.SDefault, byWhole, says(more, n)), told(0)},
			pair{send(i, 7, 9), sent(0, 7+byte(i), 9)},
			pair{api.Step{}, told(api.ErrKind)},
			pair{read(byWhole), has(more, []uint64{n})},
		)
	}
	if len(l) != api.MaxActsDo {
		t.Fatal(len(l))
	}
	twins(t, yard()).wantRun(l...)
	twins(t, yard()).wantRun()
	if got, f := twins(t, yard()).Run(make([]api.Step, 0, 500)); f != right || len(got) != 0 {
		t.Errorf("%v %v", got, f)
	}
}

// The first step that Do and Plain reply otherwise to is told, and none behind it is done.
func TestOtherwise(t *testing.T) {
	add := step(api.SAdd, byWhole, whole(5, gone))
	for _, one := range []struct {
		name  string
		apart func(w tester) api.Reply
	}{
		{"Do", func(w tester) api.Reply { return w.Do(add) }},
		{"Plain", func(w tester) api.Reply { return w.Plain(add) }},
	} {
		for _, s := range []api.Step{add, step(api.SChange, byWhole, whole(5, more, 1)), step(api.SDrop, byWhole, whole(5, 0)), read(byWhole), send(3, 5)} {
			for at := range 4 {
				w := twins(t, yard())
				if got := one.apart(w); !alike(got, told(0)) {
					t.Fatal(got)
				}
				l := slices.Repeat([]api.Step{step(api.SDefault, byStart, says(leads, 2, 3))}, at)
				l = append(l, send(3, 6), s, s, step(api.SDefault, byStart, says(gone)), read(byWhole))
				w.wantFault(fault(api.ErrSum, at+1), l...)
				want := has(leads, []uint64{2, 3})
				if at == 0 {
					want = has(still, nil)
				}
				w.wantBoth(pair{read(byStart), want})
			}
		}
	}
}

// The step to which the replies are otherwise was done both ways, as those ahead of it were.
func TestDoneWhereOtherwise(t *testing.T) {
	w := twins(t, yard())
	w.wantDo(told(0), step(api.SAdd, byWhole, whole(5, gone)))
	w.wantFault(fault(api.ErrSum, 1), step(api.SAdd, byWhole, whole(4, gone)), step(api.SAdd, byWhole, whole(5, gone)))
	w.wantBoth(pair{read(byWhole), has(more, []uint64{1}, whole(4, gone), whole(5, gone))})
	w.wantRun(pair{step(api.SAdd, byWhole, whole(6, gone)), told(api.ErrFull)}, pair{send(3, 4), nowhere})
}

// Where replies are the same, it does not matter that tables are not.
func TestOtherwiseUnseen(t *testing.T) {
	w := twins(t, yard())
	w.wantDo(told(0), step(api.SAdd, byWhole, whole(5, gone)))
	w.wantRun(pair{send(3, 6), sent(0, 7)}, pair{read(byStart), has(still, nil)}, pair{send(3), nowhere}, pair{api.Step{}, told(api.ErrKind)})
	w.wantFault(fault(api.ErrSum, 0), send(3, 5))
	w.wantFault(fault(api.ErrSum, 0), read(byWhole))
}

// Neither a plan nor steps are kept or changed, and what was told can be changed.
func TestMemory(t *testing.T) {
	p := yard()
	w := twins(t, p)
	p.Acts[more].Ops[0].E[1] = num(50)
	p.Acts[leads].W[0] = 1
	p.Tabs[byWhole].Acts[1], p.Tabs[byWhole].Args[0] = leads, 77
	p.Tabs[byMask].Keys[0] = inPort
	p.Out[0] = 1
	l := steps(script())
	got, f := w.Run(l)
	if f != right || !alike(got, replies(script())) {
		t.Fatalf("%v %+v", f, got)
	}
	if !alike(l, steps(script())) {
		t.Errorf("steps were changed: %+v", l)
	}
	before, plain := tables(w.Do), tables(w.Plain)
	for i := range l {
		spoil(l[i].E.Keys, l[i].E.Masks, l[i].E.Args)
		clear(l[i].B)
	}
	if !alike(got, replies(script())) {
		t.Errorf("replies share what was handed in: %+v", got)
	}
	for i := range got {
		for _, e := range got[i].Entries {
			spoil(e.Keys, e.Masks, e.Args)
		}
		spoil(got[i].Default.Args)
		clear(got[i].R.Bytes)
	}
	if a, b := tables(w.Do), tables(w.Plain); !alike(a, before) || !alike(b, plain) || !alike(a, b) {
		t.Errorf("%+v and %+v, want %+v", a, b, before)
	}
	for _, r := range tables(w.Plain) {
		for _, e := range r.Entries {
			spoil(e.Keys, e.Masks, e.Args)
		}
		spoil(r.Default.Args)
	}
	if b := tables(w.Plain); !alike(b, plain) {
		t.Errorf("Plain's tables are handed out: %+v", b)
	}
}

func spoil(l ...[]uint64) {
	for _, x := range l {
		for i := range x {
			x[i] = 0xEE
		}
	}
}

// What lies behind a list's length is neither read nor written.
func TestBehindTheLength(t *testing.T) {
	w := twins(t, yard())
	b := []byte{5, 9, 77, 78}
	keys, args := []uint64{5, 71, 72}, []uint64{3, 73, 74}
	l := []api.Step{
		{Kind: api.SAdd, E: api.Entry{Keys: keys[:1], Act: more, Args: args[:1]}},
		{Kind: api.SSend, B: b[:2]},
		step(api.SDefault, byWhole, says(gone)),
		step(api.SDefault, byWhole, says(gone)),
	}
	got, f := w.Run(l[:2])
	if f != right || !alike(got, []api.Reply{told(0), sent(0, 8, 9)}) {
		t.Errorf("%v %+v", f, got)
	}
	if !slices.Equal(b, []byte{5, 9, 77, 78}) || !slices.Equal(keys, []uint64{5, 71, 72}) || !slices.Equal(args, []uint64{3, 73, 74}) || !alike(l[2], l[3]) {
		t.Errorf("%v %v %v %+v", b, keys, args, l)
	}
	w.wantBoth(pair{read(byWhole), has(more, []uint64{1}, whole(5, more, 3))})
}
