package asm

import (
	"math"
	"reflect"
	"slices"
	"testing"

	"shuntyard/api"
	"shuntyard/guard"
	"shuntyard/store"
	"shuntyard/vm"
	"shuntyard/word"
)

func fault(code, at int) api.Fault { return api.Fault{Code: code, At: at} }

var right = fault(0, 0)

// Instructions, by their fields in the document's order; of those that lead on, to is a label where they are put, and a number of instructions where they are asked for.

func num(r int, n uint64) api.Ins          { return api.Ins{Op: api.INum, R: r, N: n} }
func room(r int, n uint64, to int) api.Ins { return api.Ins{Op: api.IRoom, R: r, N: n, To: to} }
func less(r, s, to int) api.Ins            { return api.Ins{Op: api.ILess, R: r, S: s, To: to} }
func equal(r, s, to int) api.Ins           { return api.Ins{Op: api.IEqual, R: r, S: s, To: to} }
func jump(to int) api.Ins                  { return api.Ins{Op: api.IJump, To: to} }
func exit(r int) api.Ins                   { return api.Ins{Op: api.IExit, R: r} }

var drop = api.Ins{Op: api.IDrop}

// leading tells each of the four that lead to a label.
func leading(to int) []api.Ins {
	return []api.Ins{room(3, 600, to), less(4, 5, to), equal(6, 7, to), jump(to)}
}

// others tells each of the fourteen that don't, such as a program with ten slots and the tables of shapes may have them.
func others() []api.Ins {
	return []api.Ins{
		num(9, math.MaxUint64),
		{Op: api.IMove, R: 1, S: 9},
		{Op: api.IBin, R: 2, S: 1, K: api.PEq},
		{Op: api.INot, R: 3},
		{Op: api.IOnes, R: 4, S: 3},
		{Op: api.ILoad, R: 5, S: 4, K: 8, N: 600},
		{Op: api.IGet, R: 6, N: 9},
		{Op: api.ISet, R: 7, N: 1},
		{Op: api.ICall, R: 1, S: 7, K: 8, N: 1},
		{Op: api.IPut, R: 2, K: 1},
		{Op: api.ITail, R: 3},
		{Op: api.IPort, R: 4},
		exit(5),
		drop,
	}
}

func shapes() []api.Shape {
	return []api.Shape{{Keys: 1, Acts: 1}, {Keys: 3, Acts: 8, Args: 2}}
}

// labelled tells an Asm with so many labels.
func labelled(n int) *Asm {
	a := New()
	for range n {
		a.Label()
	}
	return a
}

// times tells n times the same.
func times[T any](n int, x T) []T {
	var l []T
	for range n {
		l = append(l, x)
	}
	return l
}

// mark marks labels that can be marked.
func mark(t *testing.T, a *Asm, labels ...int) {
	t.Helper()
	for _, l := range labels {
		if !a.Mark(l) {
			t.Errorf("the label %d can't be marked", l)
		}
	}
}

// wantCode asks for the instructions of a program with ten slots and two tables.
func wantCode(t *testing.T, name string, a *Asm, want ...api.Ins) {
	t.Helper()
	p, f := a.Done(10, shapes())
	if f != right || p.Slots != 10 || !slices.Equal(p.Tabs, shapes()) || !slices.Equal(p.Code, want) {
		t.Errorf("%s: %v, %v, want %v", name, p, f, want)
	}
	if a.Len() != len(want) {
		t.Errorf("%s: %d instructions, want %d", name, a.Len(), len(want))
	}
}

// wantFault asks for a fault, and for nothing beside it.
func wantFault(t *testing.T, name string, a *Asm, slots int, tabs []api.Shape, want api.Fault) {
	t.Helper()
	p, f := a.Done(slots, tabs)
	if f != want {
		t.Errorf("%s: %v, want %v", name, f, want)
	}
	if !reflect.DeepEqual(p, api.Program{}) {
		t.Errorf("%s: %v beside a fault", name, p)
	}
}

// wrong asks for a fault of what has slots and tables enough.
func wrong(t *testing.T, name string, a *Asm, code, at int) {
	t.Helper()
	wantFault(t, name, a, 10, shapes(), fault(code, at))
}

func TestExample(t *testing.T) {
	a := New()
	l := a.Label()
	a.Put(jump(l), num(0, 0))
	mark(t, a, l)
	a.Put(drop)
	wantCode(t, "example", a, jump(1), num(0, 0), drop)
}

func TestLabelsAreNumbered(t *testing.T) {
	a := New()
	for i := range 1000 {
		if l := a.Label(); l != i {
			t.Fatalf("the label %d, want %d", l, i)
		}
		a.Mark(i - 2)
		a.Put(drop)
	}
	if a.Len() != 1000 {
		t.Errorf("%d instructions", a.Len())
	}
}

func TestMark(t *testing.T) {
	a := New()
	for _, l := range []int{0, 1, -1, math.MaxInt, math.MinInt} {
		if a.Mark(l) {
			t.Errorf("%d is marked without any label", l)
		}
	}
	a.Label()
	a.Label()
	for _, l := range []int{2, 3, -1, -2, math.MaxInt, math.MinInt} {
		if a.Mark(l) {
			t.Errorf("%d is marked, of two labels", l)
		}
	}
	mark(t, a, 1, 0)
	for _, l := range []int{0, 1, 2} {
		if a.Mark(l) {
			t.Errorf("%d is marked again", l)
		}
	}
	a.Put(drop)
	for _, l := range []int{0, 1, 2} {
		if a.Mark(l) {
			t.Errorf("%d is marked elsewhere", l)
		}
	}
	if l := a.Label(); l != 2 || !a.Mark(l) || a.Mark(l) {
		t.Errorf("a label more is %d, and not marked once", l)
	}
}

// What is told not to be marked stands where it stood, or nowhere.
func TestMarkInVain(t *testing.T) {
	a := labelled(1)
	a.Put(jump(0), num(0, 0))
	mark(t, a, 0)
	a.Put(num(1, 1))
	if a.Mark(0) {
		t.Error("marked again")
	}
	a.Put(drop)
	wantCode(t, "where it stood", a, jump(1), num(0, 0), num(1, 1), drop)

	b := New()
	b.Put(jump(0))
	if b.Mark(0) {
		t.Error("no label is marked")
	}
	b.Put(drop)
	b.Label()
	wrong(t, "marked ahead of being there", b, api.ErrNone, 0)
	mark(t, b, 0)
	b.Put(drop)
	wantCode(t, "marked at last", b, jump(1), drop, drop)
}

func TestPut(t *testing.T) {
	a := New()
	a.Put()
	a.Put(nil...)
	a.Put([]api.Ins{}...)
	if a.Len() != 0 {
		t.Errorf("%d instructions of none", a.Len())
	}
	a.Put(num(0, 1))
	a.Put(num(1, 2), num(2, 3), num(3, 4))
	a.Put()
	a.Put(drop)
	wantCode(t, "piece by piece", a, num(0, 1), num(1, 2), num(2, 3), num(3, 4), drop)
	b := New()
	for i, ins := range others() {
		b.Put(ins)
		if b.Len() != i+1 {
			t.Errorf("%d instructions, want %d", b.Len(), i+1)
		}
	}
	wantCode(t, "all that lead nowhere", b, others()...)
}

// Each of the four, over each number of instructions.
func TestOver(t *testing.T) {
	for i, ins := range leading(0) {
		for over := range 20 {
			for ahead := range 4 {
				a := labelled(1)
				a.Put(times(ahead, num(0, 7))...)
				a.Put(ins)
				a.Put(times(over, num(1, 8))...)
				mark(t, a, 0)
				a.Put(drop)
				want := slices.Concat(times(ahead, num(0, 7)), leading(over)[i:i+1], times(over, num(1, 8)), []api.Ins{drop})
				wantCode(t, "over some", a, want...)
			}
		}
	}
}

func TestManyToOneAndOneToMany(t *testing.T) {
	a := labelled(3)
	a.Put(leading(2)...)
	mark(t, a, 1, 0)
	a.Put(jump(2))
	mark(t, a, 2)
	a.Put(drop)
	want := []api.Ins{room(3, 600, 4), less(4, 5, 3), equal(6, 7, 2), jump(1), jump(0), drop}
	wantCode(t, "to one", a, want...)

	b := labelled(3)
	b.Put(jump(1), jump(0), jump(2))
	mark(t, b, 1, 0)
	b.Put(num(0, 0))
	mark(t, b, 2)
	b.Put(drop)
	wantCode(t, "two at one place", b, jump(2), jump(1), jump(1), num(0, 0), drop)
}

// A label's number tells neither where it stands nor when it was marked.
func TestLabelsInAnyOrder(t *testing.T) {
	a := labelled(4)
	a.Put(jump(3), jump(2), jump(1), jump(0))
	mark(t, a, 2)
	a.Put(num(2, 2))
	mark(t, a, 0)
	a.Put(num(0, 0))
	mark(t, a, 3)
	a.Put(num(3, 3))
	mark(t, a, 1)
	a.Put(drop)
	wantCode(t, "in any order", a, jump(5), jump(2), jump(4), jump(1), num(2, 2), num(0, 0), num(3, 3), drop)
}

// A label may be made when there are instructions already that lead to it.
func TestLabelBehindItsUse(t *testing.T) {
	a := New()
	a.Put(jump(1))
	wrong(t, "no label", a, api.ErrNone, 0)
	a.Label()
	wrong(t, "another label", a, api.ErrNone, 0)
	a.Label()
	wrong(t, "stands nowhere", a, api.ErrNone, 0)
	mark(t, a, 1)
	wrong(t, "stands behind the end", a, api.ErrJump, 0)
	a.Put(drop)
	wantCode(t, "stands", a, jump(0), drop)
}

func TestUnusedLabels(t *testing.T) {
	a := labelled(3)
	mark(t, a, 0)
	a.Put(drop)
	mark(t, a, 2)
	wantCode(t, "one marked ahead, one behind, one nowhere", a, drop)
}

func TestNone(t *testing.T) {
	for _, l := range []int{1, 2, 3, -1, -2, 1000, math.MaxInt, math.MinInt} {
		for _, ins := range leading(l) {
			a := labelled(2)
			a.Put(num(0, 0), ins)
			mark(t, a, 0)
			a.Put(drop)
			wrong(t, "no label, or nowhere", a, api.ErrNone, 1)
		}
	}
}

func TestRound(t *testing.T) {
	for _, ins := range leading(0) {
		for back := range 4 {
			a := labelled(1)
			a.Put(num(0, 0))
			mark(t, a, 0)
			a.Put(times(back, num(0, 0))...)
			a.Put(ins, drop)
			wrong(t, "at it or ahead", a, api.ErrRound, 1+back)
		}
	}
	a := labelled(1)
	mark(t, a, 0)
	a.Put(jump(0), drop)
	wrong(t, "the first one to itself", a, api.ErrRound, 0)
}

func TestFirstIsTold(t *testing.T) {
	a := labelled(3)
	mark(t, a, 0)
	a.Put(jump(1), jump(0), jump(2))
	mark(t, a, 1)
	a.Put(drop)
	wrong(t, "round, then none", a, api.ErrRound, 1)

	b := labelled(3)
	mark(t, b, 0)
	b.Put(jump(1), jump(2), jump(0))
	mark(t, b, 1)
	b.Put(drop)
	wrong(t, "none, then round", b, api.ErrNone, 1)
}

// Whatever word.Check would tell, labels come first.
func TestLabelsAheadOfCheck(t *testing.T) {
	faults := []struct {
		name  string
		slots int
		tabs  []api.Shape
		ahead []api.Ins
	}{
		{"slots", 97, nil, nil},
		{"slots below 0", -1, nil, nil},
		{"tables", 0, times(6, api.Shape{Keys: 1, Acts: 1}), nil},
		{"a table", 0, []api.Shape{{}}, nil},
		{"no instruction", 0, nil, []api.Ins{{}}},
		{"a form", 0, nil, []api.Ins{num(10, 0)}},
		{"too many", 0, nil, times(api.MaxCode, drop)},
	}
	for _, c := range faults {
		for _, l := range []int{0, 1} {
			a := labelled(2)
			mark(t, a, 0)
			a.Put(c.ahead...)
			a.Put(jump(l))
			code := []int{api.ErrRound, api.ErrNone}[l]
			wantFault(t, c.name, a, c.slots, c.tabs, fault(code, len(c.ahead)))
		}
	}
	a := labelled(1)
	a.Put(room(10, 601, 0))
	wrong(t, "its own form", a, api.ErrNone, 0)
}

func TestCheck(t *testing.T) {
	wrong(t, "no instructions", New(), api.ErrMany, -1)
	wrong(t, "labels alone", labelled(5), api.ErrMany, -1)
	a := New()
	a.Put(drop)
	for _, slots := range []int{-1, 97, math.MaxInt, math.MinInt} {
		wantFault(t, "slots", a, slots, nil, fault(api.ErrRange, -1))
	}
	wantFault(t, "tables", a, 0, times(6, api.Shape{Keys: 1, Acts: 1}), fault(api.ErrMany, -1))
	wantFault(t, "a table", a, 0, append(shapes(), api.Shape{Keys: 4, Acts: 1}), fault(api.ErrRange, -4))

	b := labelled(1)
	b.Put(less(10, 0, 0), num(0, 0))
	mark(t, b, 0)
	b.Put(drop)
	wrong(t, "a register", b, api.ErrForm, 0)

	c := labelled(1)
	c.Put(num(0, 0), equal(0, 0, 0))
	mark(t, c, 0)
	wrong(t, "behind the end", c, api.ErrJump, 1)
	c.Put(num(0, 0))
	wrong(t, "no end", c, api.ErrEnd, 2)
	c.Put(drop)
	wantCode(t, "an end", c, num(0, 0), equal(0, 0, 0), num(0, 0), drop)

	d := New()
	d.Put(others()[8], drop)
	wantFault(t, "no table to call", d, 10, nil, fault(api.ErrForm, 0))
	wantFault(t, "no slots to fill", d, 9, shapes(), fault(api.ErrForm, 0))
	wantCode(t, "with both", d, others()[8], drop)
}

// To is a label of the four alone: elsewhere it stays what it is, and word.Check has none there.
func TestToOfOthers(t *testing.T) {
	l := others()
	for _, op := range []int{0, -1, 19, 20, math.MaxInt, math.MinInt} {
		l = append(l, api.Ins{Op: op})
	}
	for _, ins := range l {
		for _, to := range []int{1, 2, 3, -1} {
			ins.To = to
			a := labelled(3)
			mark(t, a, 2)
			a.Put(num(0, 0), ins)
			mark(t, a, 1)
			a.Put(drop)
			wrong(t, "To of another", a, api.ErrForm, 1)
		}
	}
	a := labelled(1)
	mark(t, a, 0)
	a.Put(others()...)
	wantCode(t, "To 0 is no label of theirs", a, others()...)
}

func TestMost(t *testing.T) {
	a := labelled(2)
	a.Put(jump(0), jump(1))
	mark(t, a, 1)
	a.Put(times(api.MaxCode-3, num(0, 0))...)
	mark(t, a, 0)
	a.Put(drop)
	want := slices.Concat([]api.Ins{jump(api.MaxCode - 2), jump(0)}, times(api.MaxCode-3, num(0, 0)), []api.Ins{drop})
	p, f := a.Done(api.MaxSlots, times(api.MaxTabs, api.Shape{Keys: 3, Acts: 8, Args: 3}))
	if f != right || !slices.Equal(p.Code, want) || len(p.Tabs) != api.MaxTabs || p.Slots != api.MaxSlots {
		t.Errorf("as many as there may be: %v, %d instructions", f, len(p.Code))
	}
	a.Put(drop)
	wrong(t, "one more", a, api.ErrMany, -1)
	if a.Len() != api.MaxCode+1 {
		t.Errorf("%d instructions", a.Len())
	}
	a.Put(jump(1))
	wrong(t, "one more that leads back", a, api.ErrRound, api.MaxCode+1)
}

func TestManyLabels(t *testing.T) {
	const n = 30000
	a := labelled(n)
	for i := range n {
		a.Put(jump(n - 1 - i))
	}
	for i := range n {
		mark(t, a, n-1-i)
		a.Put(drop)
	}
	wantCode(t, "each over as many", a, append(times(n, jump(n-1)), times(n, drop)...)...)
}

// Done may be asked at any time, more than once, and changes nothing.
func TestDoneAgain(t *testing.T) {
	a := labelled(2)
	a.Put(jump(0))
	for range 3 {
		wrong(t, "nowhere", a, api.ErrNone, 0)
	}
	a.Put(num(0, 0))
	mark(t, a, 0)
	for range 3 {
		wrong(t, "behind the end", a, api.ErrJump, 0)
	}
	a.Put(drop)
	for range 3 {
		wantCode(t, "done", a, jump(1), num(0, 0), drop)
	}
	a.Put(less(0, 1, 1), num(1, 1), num(2, 2))
	mark(t, a, 1)
	a.Put(exit(0))
	for range 3 {
		wantCode(t, "more behind it", a, jump(1), num(0, 0), drop, less(0, 1, 2), num(1, 1), num(2, 2), exit(0))
	}
	if p, f := a.Done(3, nil); f != right || p.Slots != 3 || len(p.Tabs) != 0 || len(p.Code) != 7 {
		t.Errorf("with other slots and tables: %v, %v", p, f)
	}
	if l := a.Label(); l != 2 {
		t.Errorf("the label %d, want 2", l)
	}
}

func TestApart(t *testing.T) {
	a, b := New(), New()
	if a.Label() != 0 || b.Label() != 0 || b.Label() != 1 || a.Label() != 1 {
		t.Error("labels are not numbered from 0 on")
	}
	a.Put(jump(0), num(1, 1))
	b.Put(jump(0))
	mark(t, b, 0)
	mark(t, a, 0)
	a.Put(drop)
	b.Put(exit(0))
	wantCode(t, "one", a, jump(1), num(1, 1), drop)
	wantCode(t, "another", b, jump(0), exit(0))
}

// spoil writes into all memory of a list, behind its length, too.
func spoil[T any](l []T, x T) {
	l = l[:cap(l)]
	for i := range l {
		l[i] = x
	}
}

func TestWhatIsHandedInIsNotKept(t *testing.T) {
	a := labelled(1)
	l := []api.Ins{jump(0), num(0, 0)}
	a.Put(l...)
	spoil(l, exit(9))
	mark(t, a, 0)
	l = []api.Ins{drop}
	a.Put(l...)
	spoil(l, exit(9))
	tabs := shapes()
	p, f := a.Done(10, tabs)
	spoil(tabs, api.Shape{})
	if f != right || !slices.Equal(p.Tabs, shapes()) {
		t.Errorf("%v, %v: the tables are the caller's own", p, f)
	}
	wantCode(t, "put", a, jump(1), num(0, 0), drop)
}

func TestWhatIsHandedInIsNotChanged(t *testing.T) {
	a := labelled(2)
	back := []api.Ins{jump(0), less(1, 2, 0), jump(1), jump(1)}
	tabs := append(shapes(), api.Shape{Keys: 9}, api.Shape{Keys: 8})
	wantBack, wantTabs := slices.Clone(back), slices.Clone(tabs)
	a.Put(back[:2]...)
	a.Put(num(0, 0))
	mark(t, a, 0)
	a.Put(drop)
	wantCode(t, "what lies behind is not read", a, jump(2), less(1, 2, 1), num(0, 0), drop)
	p, f := a.Done(10, tabs[:2])
	if f != right || !slices.Equal(p.Tabs, shapes()) {
		t.Errorf("%v, %v", p, f)
	}
	spoil(p.Tabs, api.Shape{})
	spoil(p.Code, exit(9))
	if !slices.Equal(back, wantBack) || !slices.Equal(tabs, wantTabs) {
		t.Errorf("changed: %v, %v", back, tabs)
	}
}

func TestAnswersAreNewMemory(t *testing.T) {
	a := labelled(1)
	a.Put(jump(0), num(0, 0))
	mark(t, a, 0)
	a.Put(drop)
	tabs := shapes()
	p, _ := a.Done(10, tabs)
	q, _ := a.Done(10, tabs)
	spoil(p.Code, exit(9))
	spoil(p.Tabs, api.Shape{})
	if want := []api.Ins{jump(1), num(0, 0), drop}; !slices.Equal(q.Code, want) || !slices.Equal(q.Tabs, shapes()) {
		t.Errorf("answers share memory: %v", q)
	}
	wantCode(t, "what was put", a, jump(1), num(0, 0), drop)
	a.Put(drop)
	if len(q.Code) != 3 || q.Code[2] != drop {
		t.Errorf("putting more changed an answer: %v", q)
	}
}

func TestEmptyLists(t *testing.T) {
	a := New()
	a.Put(drop)
	for _, tabs := range [][]api.Shape{nil, {}, shapes()[:0]} {
		p, f := a.Done(0, tabs)
		if f != right || len(p.Tabs) != 0 || !slices.Equal(p.Code, []api.Ins{drop}) {
			t.Errorf("%v, %v", p, f)
		}
	}
}

// The guard's example, with a label for the way out.
func TestGuardAndRun(t *testing.T) {
	a := New()
	out := a.Label()
	a.Put(num(0, 0), room(0, 1, out))
	a.Put(api.Ins{Op: api.ILoad, R: 1, S: 0, K: 1}, api.Ins{Op: api.IPut, R: 1, K: 1}, exit(1))
	mark(t, a, out)
	a.Put(drop)
	p, f := a.Done(0, nil)
	if f != right || word.Check(p) != right || guard.Check(p) != right {
		t.Fatalf("%v, %v, %v", p, f, guard.Check(p))
	}
	r, n, f := vm.Run(p, []*store.Store{}, []byte{7, 9}, 0)
	if f != right || r.Port != 7 || !slices.Equal(r.Bytes, []byte{7}) || n != 5 {
		t.Errorf("%v by %d, %v", r, n, f)
	}
	r, n, f = vm.Run(p, nil, nil, 0)
	if f != right || r.Port != -1 || len(r.Bytes) != 0 || n != 3 {
		t.Errorf("%v by %d, %v", r, n, f)
	}
}
