package guard

import (
	"math"
	"reflect"
	"slices"
	"testing"

	"shuntyard/api"
	"shuntyard/word"
)

func fault(code, at int) api.Fault { return api.Fault{Code: code, At: at} }

var right = fault(0, 0)

// Instructions, by their fields in the document's order.

func num(r int, n uint64) api.Ins        { return api.Ins{Op: api.INum, R: r, N: n} }
func move(r, s int) api.Ins              { return api.Ins{Op: api.IMove, R: r, S: s} }
func bin(r, s, k int) api.Ins            { return api.Ins{Op: api.IBin, R: r, S: s, K: k} }
func add(r, s int) api.Ins               { return bin(r, s, api.PAdd) }
func not(r int) api.Ins                  { return api.Ins{Op: api.INot, R: r} }
func ones(r, s int) api.Ins              { return api.Ins{Op: api.IOnes, R: r, S: s} }
func load(r, s, k int, n uint64) api.Ins { return api.Ins{Op: api.ILoad, R: r, S: s, K: k, N: n} }
func get(r int, n uint64) api.Ins        { return api.Ins{Op: api.IGet, R: r, N: n} }
func set(r int, n uint64) api.Ins        { return api.Ins{Op: api.ISet, R: r, N: n} }
func room(r int, n uint64, to int) api.Ins {
	return api.Ins{Op: api.IRoom, R: r, N: n, To: to}
}
func less(r, s, to int) api.Ins          { return api.Ins{Op: api.ILess, R: r, S: s, To: to} }
func equal(r, s, to int) api.Ins         { return api.Ins{Op: api.IEqual, R: r, S: s, To: to} }
func jump(to int) api.Ins                { return api.Ins{Op: api.IJump, To: to} }
func call(r, s, k int, n uint64) api.Ins { return api.Ins{Op: api.ICall, R: r, S: s, K: k, N: n} }
func put(r, k int) api.Ins               { return api.Ins{Op: api.IPut, R: r, K: k} }
func tail(r int) api.Ins                 { return api.Ins{Op: api.ITail, R: r} }
func exit(r int) api.Ins                 { return api.Ins{Op: api.IExit, R: r} }
func port(r int) api.Ins                 { return api.Ins{Op: api.IPort, R: r} }

var drop = api.Ins{Op: api.IDrop}

// toEnd stands for a To that leads to the last instruction.
const toEnd = -1

// surely asks for room, and gives up if there is none.
func surely(r int, n uint64) api.Ins { return room(r, n, toEnd) }

// code tells a program of these, with all slots and two tables.
func code(l ...api.Ins) api.Program {
	l = slices.Clone(l)
	for i := range l {
		if l[i].To == toEnd {
			l[i].To = len(l) - 2 - i
		}
	}
	return api.Program{Slots: api.MaxSlots, Tabs: []api.Shape{{Keys: 3, Acts: 2, Args: 2}, {Keys: 1, Acts: 8}}, Code: l}
}

// wantFault asks for a fault of these instructions.
func wantFault(t *testing.T, name string, want api.Fault, l ...api.Ins) {
	t.Helper()
	p := code(l...)
	if f := word.Check(p); f != right {
		t.Errorf("%s: word.Check tells %v", name, f)
	}
	if f := Check(p); f != want {
		t.Errorf("%s: %v, want %v", name, f, want)
	}
}

// let asks whether these instructions, and an IDrop behind them, are let by. If they are not, this must be the last one's fault.
func let(t *testing.T, wrong int, l ...api.Ins) bool {
	t.Helper()
	f := Check(code(append(slices.Clone(l), drop)...))
	if f != right && f != fault(wrong, len(l)-1) {
		t.Errorf("%v: %v, want none, or %d at %d", l, f, wrong, len(l)-1)
	}
	return f == right
}

// none is a room of which nothing is known.
const none = -1

// wantRoom asks how much room is known of a register behind these instructions, neither more nor less.
func wantRoom(t *testing.T, name string, r, want int, l ...api.Ins) {
	t.Helper()
	l = slices.Clip(l)
	if got := let(t, api.ErrRoom, append(l, tail(r))...); got != (want >= 0) {
		t.Errorf("%s: room known: %v, want %v", name, got, want >= 0)
	}
	for n := range 601 {
		if got := let(t, api.ErrRoom, append(l, load(9, r, 1, uint64(n)))...); got != (n < want) {
			t.Errorf("%s: the byte %d: %v, want a room of %d", name, n, got, want)
		}
	}
}

// wantJust asks whether a register is known to be just this number behind these instructions.
func wantJust(t *testing.T, name string, r int, n uint64, want bool, l ...api.Ins) {
	t.Helper()
	// With this it becomes 600 if it was n, which takes all the room that there is, and no more.
	l = append(slices.Clone(l), num(8, 600-n), add(r, 8), num(7, 0), surely(7, 600), add(7, r))
	got := let(t, api.ErrRoom, append(l, tail(7))...) && !let(t, api.ErrRoom, append(l, load(9, 7, 1, 0))...)
	if got != want {
		t.Errorf("%s: just %d: %v, want %v", name, n, got, want)
	}
}

var edges = []uint64{0, 1, 2, 3, 63, 64, 255, 256, 599, 600, 601, 0xFFFF, 0x10000, 1<<32 - 1, 1 << 32, math.MaxInt64, 1 << 63, math.MaxUint64 - 600, math.MaxUint64 - 1, math.MaxUint64}

func TestExamples(t *testing.T) {
	wantFault(t, "no look", fault(api.ErrRoom, 1), num(0, 0), load(1, 0, 1, 0), drop)
	wantFault(t, "a look", right, num(0, 0), room(0, 1, 2), load(1, 0, 1, 0), drop, drop)
	wantFault(t, "a look over one", right, num(0, 0), room(0, 1, 1), load(1, 0, 1, 0), drop)
	wantFault(t, "a look over none", fault(api.ErrRoom, 2), num(0, 0), room(0, 1, 0), load(1, 0, 1, 0), drop)
	wantFault(t, "nothing", right, drop)
	wantFault(t, "by a port that is none", fault(api.ErrUnset, 0), exit(0))
}

// word.Check's fault is told ahead of all others, whatever stands where.
func TestWordFault(t *testing.T) {
	end := []api.Ins{drop}
	for _, c := range []struct {
		name string
		p    api.Program
		want api.Fault
	}{
		{"nothing", api.Program{}, fault(api.ErrMany, -1)},
		{"an empty list", api.Program{Code: []api.Ins{}}, fault(api.ErrMany, -1)},
		{"too many slots", api.Program{Slots: 97, Code: end}, fault(api.ErrRange, -1)},
		{"slots below 0", api.Program{Slots: -1, Code: end}, fault(api.ErrRange, -1)},
		{"too many tables", api.Program{Tabs: make([]api.Shape, 6), Code: end}, fault(api.ErrMany, -1)},
		{"too many instructions", code(slices.Repeat(end, 60001)...), fault(api.ErrMany, -1)},
		{"a shape", api.Program{Tabs: []api.Shape{{Keys: 1, Acts: 1}, {Keys: 4, Acts: 1}}, Code: end}, fault(api.ErrRange, -3)},
		{"a form behind what is unset", code(not(0), not(10), drop), fault(api.ErrForm, 1)},
		{"a form behind what has no room", code(num(0, 1), tail(0), port(-1), drop), fault(api.ErrForm, 2)},
		{"a form to which no way comes", code(drop, api.Ins{Op: 19}, drop), fault(api.ErrForm, 1)},
		{"a slot that is not there", api.Program{Slots: 2, Code: []api.Ins{get(0, 2), drop}}, fault(api.ErrForm, 0)},
		{"a table that is not there", code(call(0, 0, 0, 2), drop), fault(api.ErrForm, 0)},
		{"keys that are not there", code(call(0, 94, 0, 0), drop), fault(api.ErrForm, 0)},
		{"arguments that are not there", code(call(0, 0, 95, 0), drop), fault(api.ErrForm, 0)},
		{"a way out behind what is unset", code(not(0), jump(1), drop), fault(api.ErrJump, 1)},
		{"a way back", code(num(0, 0), jump(-2), drop), fault(api.ErrForm, 1)},
		{"no end behind what is unset", code(not(0), port(0)), fault(api.ErrEnd, 1)},
		{"no end", code(port(0)), fault(api.ErrEnd, 0)},
	} {
		if f := word.Check(c.p); f != c.want {
			t.Errorf("%s: word.Check tells %v", c.name, f)
		}
		if f := Check(c.p); f != c.want {
			t.Errorf("%s: %v, want %v", c.name, f, c.want)
		}
	}
}

// user is an instruction, with the registers and slots that it uses.
type user struct {
	name  string
	ins   api.Ins
	regs  []int
	slots []int
}

var users = []user{
	{"INum", num(1, 5), nil, nil},
	{"IMove", move(1, 2), []int{2}, nil},
	{"IMove to itself", move(1, 1), []int{1}, nil},
	{"IBin", add(1, 2), []int{1, 2}, nil},
	{"IBin of another kind", bin(1, 2, api.PEq), []int{1, 2}, nil},
	{"IBin that needs not look", bin(1, 1, api.PXor), []int{1}, nil},
	{"INot", not(1), []int{1}, nil},
	{"IOnes", ones(1, 2), []int{1, 2}, nil},
	{"ILoad", load(1, 2, 1, 0), []int{2}, nil},
	{"ILoad of its place", load(1, 1, 8, 592), []int{1}, nil},
	{"IGet", get(1, 2), nil, []int{2}},
	{"IGet the first", get(1, 0), nil, []int{0}},
	{"IGet the last", get(1, 95), nil, []int{95}},
	{"ISet", set(1, 2), []int{1}, nil},
	{"IRoom", room(1, 1, 0), []int{1}, nil},
	{"IRoom of none", room(1, 0, 0), []int{1}, nil},
	{"ILess", less(1, 2, 0), []int{1, 2}, nil},
	{"IEqual", equal(1, 2, 0), []int{1, 2}, nil},
	{"IEqual to itself", equal(1, 1, 0), []int{1}, nil},
	{"IJump", jump(0), nil, nil},
	{"ICall", call(1, 2, 5, 0), nil, []int{2, 3, 4}},
	{"ICall that fills its keys", call(1, 2, 3, 0), nil, []int{2, 3, 4}},
	{"ICall at the end", call(1, 93, 94, 0), nil, []int{93, 94, 95}},
	{"ICall at the beginning", call(1, 0, 94, 0), nil, []int{0, 1, 2}},
	{"ICall of one key", call(1, 7, 96, 1), nil, []int{7}},
	{"IPut", put(1, 1), []int{1}, nil},
	{"ITail", tail(1), []int{1}, nil},
	{"IExit", exit(1), []int{1}, nil},
	{"IDrop", drop, nil, nil},
	{"IPort", port(1), nil, nil},
}

// allBut tells instructions behind which all registers have 600 bytes of room, and all slots have something, but one of each (-1: none).
func allBut(reg, slot int) []api.Ins {
	var l []api.Ins
	for r := range 10 {
		if r != reg {
			l = append(l, num(r, 0), surely(r, 600))
		}
	}
	for n := range 96 {
		if n != slot {
			l = append(l, set((reg+1)%10, uint64(n)))
		}
	}
	return l
}

// ErrUnset is told where one of those that are used alone has nothing, and nowhere else.
func TestUses(t *testing.T) {
	for _, c := range users {
		try := func(reg, slot int, uses bool) {
			t.Helper()
			if got := let(t, api.ErrUnset, append(allBut(reg, slot), c.ins)...); got == uses {
				t.Errorf("%s without the register %d, the slot %d: let by is %v", c.name, reg, slot, got)
			}
		}
		try(-1, -1, false)
		for r := range 10 {
			try(r, -1, slices.Contains(c.regs, r))
		}
		for n := range 96 {
			try(-1, n, slices.Contains(c.slots, n))
		}
	}
}

// What an instruction fills is set from then on, and nothing else is.
func TestSets(t *testing.T) {
	for _, c := range []struct {
		name  string
		ahead []api.Ins // sets the register 9, or the slots 0 to 3, alone
		ins   api.Ins
		regs  []int
		slots []int
	}{
		{"INum", nil, num(5, 7), []int{5}, nil},
		{"IMove", []api.Ins{num(9, 7)}, move(5, 9), []int{5, 9}, nil},
		{"IBin", []api.Ins{num(9, 7)}, add(9, 9), []int{9}, nil},
		{"INot", []api.Ins{num(9, 7)}, not(9), []int{9}, nil},
		{"IOnes", []api.Ins{num(9, 7)}, ones(9, 9), []int{9}, nil},
		{"ILoad", []api.Ins{num(9, 0), surely(9, 1)}, load(5, 9, 1, 0), []int{5, 9}, nil},
		{"ISet", []api.Ins{num(9, 7)}, set(9, 33), []int{9}, []int{33}},
		{"ISet the last", []api.Ins{num(9, 7)}, set(9, 95), []int{9}, []int{95}},
		{"IGet", []api.Ins{num(9, 7), set(9, 0)}, get(5, 0), []int{5, 9}, []int{0}},
		{"IRoom", []api.Ins{num(9, 7)}, room(9, 3, 0), []int{9}, nil},
		{"ILess", []api.Ins{num(9, 7)}, less(9, 9, 0), []int{9}, nil},
		{"IEqual", []api.Ins{num(9, 7)}, equal(9, 9, 0), []int{9}, nil},
		{"IJump", nil, jump(0), nil, nil},
		{"ICall", []api.Ins{num(9, 7), set(9, 0), set(9, 1), set(9, 2)}, call(5, 0, 10, 0), []int{5, 9}, []int{0, 1, 2, 10, 11}},
		{"ICall to the last", []api.Ins{num(9, 7), set(9, 0), set(9, 1), set(9, 2)}, call(5, 0, 94, 0), []int{5, 9}, []int{0, 1, 2, 94, 95}},
		{"ICall without arguments", []api.Ins{num(9, 7), set(9, 0)}, call(5, 0, 10, 1), []int{5, 9}, []int{0}},
		{"IPut", []api.Ins{num(9, 7)}, put(9, 8), []int{9}, nil},
		{"ITail", []api.Ins{num(9, 0)}, tail(9), []int{9}, nil},
		{"IPort", nil, port(5), []int{5}, nil},
	} {
		l := slices.Clip(append(slices.Clone(c.ahead), c.ins))
		for r := range 10 {
			if got := let(t, api.ErrUnset, append(l, put(r, 1))...); got != slices.Contains(c.regs, r) {
				t.Errorf("%s: the register %d is set: %v", c.name, r, got)
			}
		}
		for n := range 96 {
			if got := let(t, api.ErrUnset, append(l, get(0, uint64(n)))...); got != slices.Contains(c.slots, n) {
				t.Errorf("%s: the slot %d is set: %v", c.name, n, got)
			}
		}
	}
}

func TestNum(t *testing.T) {
	for _, n := range edges {
		want := none
		if n == 0 {
			want = 0
		}
		wantRoom(t, "num", 4, want, num(4, n))
		wantRoom(t, "num anew", 4, want, num(4, 0), surely(4, 20), num(4, n))
		for _, m := range edges {
			wantJust(t, "num", 4, m, m == n, num(4, n))
			wantJust(t, "num anew", 4, m, m == n, num(4, ^n), num(4, n))
		}
	}
	for r := range 10 {
		wantFault(t, "each register", right, num(r, 0), tail(r), drop)
	}
}

func TestMove(t *testing.T) {
	wantRoom(t, "its room", 4, 30, num(3, 0), surely(3, 30), move(4, 3))
	wantRoom(t, "what it is of keeps its own", 3, 30, num(3, 0), surely(3, 30), move(4, 3))
	wantRoom(t, "to itself", 4, 30, num(4, 0), surely(4, 30), move(4, 4))
	wantRoom(t, "none", 4, none, num(4, 0), surely(4, 30), num(3, 5), move(4, 3))
	wantRoom(t, "less than it had", 4, 2, num(4, 0), surely(4, 30), num(3, 0), surely(3, 2), move(4, 3))
	wantRoom(t, "what it learns later is its own", 4, 0, num(3, 0), move(4, 3), surely(3, 30))
	wantRoom(t, "what it learns later is its own", 3, 0, num(3, 0), move(4, 3), surely(4, 30))
	wantJust(t, "its number", 4, 7, true, num(4, 6), num(3, 7), move(4, 3))
	wantJust(t, "none", 4, 7, false, num(4, 7), port(3), move(4, 3))
	wantJust(t, "it is a copy", 4, 7, true, num(3, 7), move(4, 3), num(3, 8))
	wantFault(t, "what it is of has nothing", fault(api.ErrUnset, 1), num(4, 0), move(4, 3), drop)
}

// The sum's room is that of R less S; of no other step, and of nothing else, is anything known.
func TestAddRoom(t *testing.T) {
	for _, have := range []int{0, 1, 2, 30, 599, 600} {
		for _, step := range append(edges, uint64(have)-1, uint64(have), uint64(have)+1) {
			want := none
			if step <= uint64(have) {
				want = have - int(step)
			}
			wantRoom(t, "further", 4, want, num(4, 0), surely(4, uint64(have)), num(5, step), add(4, 5))
		}
	}
	wantRoom(t, "S keeps what it has", 5, 7, num(4, 0), num(5, 0), surely(5, 7), add(4, 5))
	wantRoom(t, "S has a room, R has none", 4, none, num(4, 3), num(5, 0), surely(5, 30), add(4, 5))
	wantRoom(t, "S has more room", 4, 2, num(4, 0), surely(4, 2), num(5, 0), surely(5, 30), add(4, 5))
	wantRoom(t, "S is not just", 4, none, num(4, 0), surely(4, 30), port(5), add(4, 5))
	wantRoom(t, "S has room, and is not just", 4, none, num(4, 0), surely(4, 30), port(5), surely(5, 30), add(4, 5))
	wantRoom(t, "R is not just", 4, 27, port(4), surely(4, 30), num(5, 3), add(4, 5))
	wantRoom(t, "R has no room", 4, none, num(4, 1), num(5, 0), add(4, 5))
	wantRoom(t, "it becomes 0, without a room", 4, none, num(4, 1), num(5, math.MaxUint64), add(4, 5))
	wantRoom(t, "twice", 4, 23, num(4, 0), surely(4, 30), num(5, 3), num(6, 4), add(4, 5), add(4, 6))
	wantRoom(t, "twice, too far", 4, none, num(4, 0), surely(4, 6), num(5, 3), num(6, 4), add(4, 5), add(4, 6))
	wantRoom(t, "to itself", 4, 17, num(4, 0), surely(4, 20), num(5, 3), add(4, 5), move(6, 4), surely(4, 20), add(4, 4))
	wantRoom(t, "to itself, a 0", 4, 20, num(4, 0), surely(4, 20), add(4, 4))
	wantRoom(t, "to itself, too far", 4, none, num(4, 3), surely(4, 2), add(4, 4))
	wantRoom(t, "from then on", 4, 9, num(4, 0), surely(4, 6), num(5, 6), add(4, 5), surely(4, 9))
	for k := api.PSub; k <= api.PEq; k++ {
		wantRoom(t, "another step", 4, none, num(4, 0), surely(4, 30), num(5, 0), bin(4, 5, k))
		wantRoom(t, "another step", 4, none, num(4, 0), surely(4, 30), num(5, 1), bin(4, 5, k))
	}
}

func TestAddJust(t *testing.T) {
	for _, a := range edges {
		for _, b := range edges {
			wantJust(t, "the sum", 4, a+b, true, num(4, a), num(5, b), add(4, 5))
			wantJust(t, "no other", 4, a+b+1, false, num(4, a), num(5, b), add(4, 5))
			wantJust(t, "S stays", 5, b, true, num(4, a), num(5, b), add(4, 5))
		}
		wantJust(t, "twice itself", 4, 2*a, true, num(4, a), add(4, 4))
	}
	wantJust(t, "R is not just", 4, 0, false, port(4), num(5, 0), add(4, 5))
	wantJust(t, "S is not just", 4, 0, false, num(4, 0), port(5), add(4, 5))
	wantJust(t, "the room counts for nothing", 4, 5, true, num(4, 2), surely(4, 9), num(5, 3), surely(5, 0), add(4, 5))
	for k := api.PSub; k <= api.PEq; k++ {
		for n := range uint64(3) {
			wantJust(t, "another step", 4, n, false, num(4, 1), num(5, 1), bin(4, 5, k))
			wantJust(t, "another step", 4, n, false, num(4, 0), num(5, 0), bin(4, 5, k))
		}
	}
}

// Of what else is put into a register, nothing is known but that it is set.
func TestForgets(t *testing.T) {
	ahead := []api.Ins{num(4, 0), surely(4, 30), num(5, 0), surely(5, 30), set(4, 0), set(4, 1), set(4, 2)}
	for _, ins := range []api.Ins{not(4), ones(4, 5), port(4), load(4, 5, 1, 0), load(4, 4, 1, 0), get(4, 0), call(4, 0, 3, 0), call(4, 0, 0, 1)} {
		l := append(slices.Clip(ahead), ins)
		wantRoom(t, "forgotten", 4, none, l...)
		wantRoom(t, "of others it is known", 5, 30, l...)
		wantRoom(t, "learned anew", 4, 3, append(l, surely(4, 3))...)
		wantJust(t, "forgotten", 4, 0, false, l...)
		wantJust(t, "of others it is known", 5, 0, true, l...)
	}
}

// Of registers that are asked alone, all stays known.
func TestKeeps(t *testing.T) {
	ahead := []api.Ins{num(4, 0), surely(4, 30), num(5, 0), surely(5, 3), set(4, 0)}
	for _, ins := range []api.Ins{less(4, 5, 0), equal(4, 5, 0), less(4, 5, toEnd), equal(4, 5, toEnd), jump(0), set(4, 1), put(4, 8), tail(4), room(4, 0, 0), room(4, 600, 0), surely(4, 30), surely(4, 29), surely(4, 0), num(6, 1), add(6, 4)} {
		l := slices.Clip(ahead)
		if ins.Op == api.IBin {
			l = append(l, num(6, 1))
		}
		l = append(l, ins)
		wantRoom(t, "kept", 4, 30, l...)
		wantRoom(t, "kept", 5, 3, l...)
		wantJust(t, "kept", 4, 0, true, l...)
		if !let(t, api.ErrUnset, append(l, get(1, 0))...) {
			t.Errorf("%v: a slot is forgotten", ins)
		}
	}
}

// To the next one, IRoom tells a room, never less than there was.
func TestRoom(t *testing.T) {
	for _, n := range []int{0, 1, 2, 30, 599, 600} {
		wantRoom(t, "nothing was known", 4, n, port(4), surely(4, uint64(n)))
		for _, m := range []int{0, 1, 29, 31, 600} {
			wantRoom(t, "once more", 4, max(n, m), port(4), surely(4, uint64(n)), surely(4, uint64(m)))
		}
	}
	wantRoom(t, "of this register alone", 5, none, port(4), move(5, 4), surely(4, 30))
	wantJust(t, "the number stays", 4, 7, true, num(4, 7), surely(4, 30))
}

// Where IRoom leads, no more is known than ahead; where it leads to the next one, too.
func TestRoomLeads(t *testing.T) {
	wantRoom(t, "nothing was known", 4, none, port(4), room(4, 30, 1), drop)
	wantRoom(t, "nothing was known", 4, none, port(4), room(4, 0, 1), drop)
	wantRoom(t, "something was known", 4, 5, port(4), surely(4, 5), room(4, 30, 1), drop)
	wantRoom(t, "more was known", 4, 50, port(4), surely(4, 50), room(4, 30, 1), drop)
	wantRoom(t, "over none", 4, none, port(4), room(4, 30, 0))
	wantRoom(t, "over none", 4, 5, port(4), surely(4, 5), room(4, 30, 0))
	wantRoom(t, "both ways meet", 4, 5, port(4), surely(4, 5), room(4, 30, 1), num(6, 1))
	wantJust(t, "the number stays", 4, 7, true, num(4, 7), room(4, 30, 1), drop)
}

// Each count of bytes, each place: what is loaded has to be within the room, to the byte.
func TestLoad(t *testing.T) {
	for _, have := range []int{0, 1, 7, 8, 9, 20, 592, 599, 600} {
		for k := 1; k <= 8; k++ {
			for _, n := range []int{0, 1, 2, have - k - 1, have - k, have - k + 1, have, 592, 593, 600} {
				if n < 0 || n > 600 {
					continue
				}
				l := []api.Ins{num(4, 0), surely(4, uint64(have)), load(5, 4, k, uint64(n))}
				if got := let(t, api.ErrRoom, l...); got != (n+k <= have) {
					t.Errorf("%d bytes from %d on, of %d: %v", k, n, have, got)
				}
			}
		}
	}
	wantFault(t, "no room known", fault(api.ErrRoom, 1), port(4), load(5, 4, 1, 0), drop)
	wantFault(t, "the room of R", fault(api.ErrRoom, 3), num(5, 0), surely(5, 600), port(4), load(5, 4, 1, 0), drop)
	wantFault(t, "unset, not room", fault(api.ErrUnset, 0), load(0, 0, 8, 600), drop)
	wantFault(t, "R may have nothing", right, num(4, 0), surely(4, 1), load(5, 4, 1, 0), drop)
}

func TestTail(t *testing.T) {
	wantFault(t, "from 0 on", right, num(4, 0), tail(4), drop)
	wantFault(t, "from elsewhere", fault(api.ErrRoom, 1), num(4, 1), tail(4), drop)
	wantFault(t, "a room of 0", right, port(4), surely(4, 0), tail(4), drop)
	wantFault(t, "a room of 600", right, port(4), surely(4, 600), tail(4), drop)
	wantFault(t, "no room known", fault(api.ErrRoom, 1), port(4), tail(4), drop)
	wantFault(t, "to the end, to the byte", right, num(4, 0), surely(4, 3), num(5, 3), add(4, 5), tail(4), drop)
	wantFault(t, "a byte further", fault(api.ErrRoom, 4), num(4, 0), surely(4, 3), num(5, 4), add(4, 5), tail(4), drop)
	wantFault(t, "unset, not room", fault(api.ErrUnset, 0), tail(0), drop)
}

// meeting tells instructions behind which two ways have met, one by a, one by b. The register 0 is 0.
func meeting(a, b []api.Ins) []api.Ins {
	for _, l := range [][]api.Ins{a, b} {
		for _, ins := range l {
			if ins.To != 0 {
				panic("a way of its own leads on")
			}
		}
	}
	l := []api.Ins{num(0, 0), equal(0, 0, len(a)+1)}
	l = append(append(l, a...), jump(len(b)))
	return append(l, b...)
}

// roomy tells a register with that room, without a jump that leads elsewhere.
func roomy(r, have int) []api.Ins {
	if have == none {
		return []api.Ins{port(r)}
	}
	return []api.Ins{move(r, 1), num(9, uint64(600-have)), add(r, 9)}
}

// Where ways meet, what all of them know is known.
func TestMeet(t *testing.T) {
	type ways struct {
		name string
		a, b []api.Ins
		set  bool
	}
	for _, c := range []ways{
		{"neither", nil, nil, false},
		{"one", []api.Ins{num(4, 0), set(4, 7)}, nil, false},
		{"both", []api.Ins{num(4, 0), set(4, 7)}, []api.Ins{port(4), set(4, 7)}, true},
		{"one each", []api.Ins{num(4, 0), set(4, 6)}, []api.Ins{port(3), set(3, 7)}, false},
	} {
		for _, l := range [][]api.Ins{meeting(c.a, c.b), meeting(c.b, c.a)} {
			if got := let(t, api.ErrUnset, append(l, put(4, 1))...); got != c.set {
				t.Errorf("%s: the register is set: %v", c.name, got)
			}
			if got := let(t, api.ErrUnset, append(l, get(1, 7))...); got != c.set {
				t.Errorf("%s: the slot is set: %v", c.name, got)
			}
		}
	}
	for _, a := range edges {
		for _, b := range edges {
			l := meeting([]api.Ins{num(4, a)}, []api.Ins{num(4, b)})
			wantJust(t, "two numbers", 4, a, a == b, l...)
			wantJust(t, "two numbers", 4, b, a == b, l...)
		}
		wantJust(t, "one number", 4, a, false, meeting([]api.Ins{num(4, a)}, []api.Ins{port(4)})...)
		wantJust(t, "one number", 4, a, false, meeting([]api.Ins{port(4)}, []api.Ins{num(4, a)})...)
	}
	wantJust(t, "the same, by other means", 4, 5, true, meeting([]api.Ins{num(4, 5)}, []api.Ins{num(4, 2), num(5, 3), add(4, 5)})...)
	rooms := []int{none, 0, 1, 30, 600}
	for _, a := range rooms {
		for _, b := range rooms {
			l := append([]api.Ins{num(1, 0), surely(1, 600)}, meeting(roomy(4, a), roomy(4, b))...)
			wantRoom(t, "two rooms", 4, min(a, b), l...)
		}
	}
}

// What is known where ways meet counts behind that, not what each way would have made of it.
func TestMeetAhead(t *testing.T) {
	l := meeting([]api.Ins{num(4, 1), num(5, 2)}, []api.Ins{num(4, 2), num(5, 1)})
	wantJust(t, "the sum of each way is the same", 4, 3, false, append(l, add(4, 5))...)
	l = append([]api.Ins{num(1, 0), surely(1, 600)}, meeting(append(roomy(4, 5), num(5, 2)), append(roomy(4, 6), num(5, 3)))...)
	wantRoom(t, "the room of each way is the same", 4, none, append(l, add(4, 5))...)
}

// Three ways, the third of which comes from far ahead.
func TestMeetOfThree(t *testing.T) {
	for missing := range 4 {
		l := []api.Ins{num(0, 0), num(4, 1), less(0, 0, 6), num(4, 1), equal(0, 0, 3), num(4, 1), jump(1), num(7, 7), num(6, 6)}
		want := true
		switch missing {
		case 1:
			l[1], want = num(4, 2), false
		case 2:
			l[3], want = port(4), false
		case 3:
			l[5], want = num(4, 0), false
		}
		wantJust(t, "three ways", 4, 1, want, l...)
	}
}

// Each register and each slot is known of by itself.
func TestEachByItself(t *testing.T) {
	var l []api.Ins
	for r := range 7 {
		l = append(l, num(r, 0), surely(r, uint64(10*r)))
	}
	for r := range 7 {
		wantRoom(t, "its own", r, 10*r, l...)
		wantJust(t, "its own", r, 0, true, l...)
	}
	l = nil
	for r := range 7 {
		l = append(l, num(r, uint64(r)+20))
	}
	for r := range 7 {
		for n := range uint64(7) {
			wantJust(t, "its own", r, n+20, uint64(r) == n, l...)
		}
	}
}

// A slot keeps that it has something, not what.
func TestSlotsKeepNoRoom(t *testing.T) {
	l := []api.Ins{num(4, 0), surely(4, 30), set(4, 3), get(5, 3)}
	wantRoom(t, "room", 5, none, l...)
	wantJust(t, "number", 5, 0, false, l...)
	wantFault(t, "set stays set", right, num(4, 0), set(4, 3), port(4), get(5, 3), get(6, 3), drop)
}

// Both ways are gone, even where a run could go one alone.
func TestBothWays(t *testing.T) {
	wantFault(t, "equal to itself", fault(api.ErrUnset, 2), num(0, 0), equal(0, 0, 1), not(1), drop)
	wantFault(t, "less than itself", fault(api.ErrUnset, 3), num(0, 0), less(0, 0, 1), drop, not(1), drop)
	wantFault(t, "just other numbers", fault(api.ErrUnset, 4), num(0, 0), num(1, 1), equal(0, 1, 1), drop, not(2), drop)
	wantFault(t, "room that is surely there", fault(api.ErrUnset, 4), num(0, 0), surely(0, 5), room(0, 5, 1), drop, not(1), drop)
	wantFault(t, "room of none, from 0 on", fault(api.ErrUnset, 3), num(0, 0), room(0, 0, 1), drop, not(1), drop)
	wantFault(t, "room that is never there", fault(api.ErrUnset, 2), num(0, 601), room(0, 600, 1), not(1), drop)
	wantFault(t, "nothing is learned of what is equal", fault(api.ErrRoom, 5), num(0, 0), num(1, 1), equal(0, 1, 1), drop, move(0, 1), tail(0), drop)
	wantJust(t, "nothing is learned of what is equal", 4, 3, false, num(5, 3), port(4), equal(4, 5, 1), drop)
}

// Where no way comes, nothing goes wrong, and from there no way goes on.
func TestNoWay(t *testing.T) {
	wrong := []api.Ins{not(1), tail(2), exit(3), get(4, 5), call(6, 7, 8, 0), load(0, 1, 8, 600)}
	for _, ins := range wrong {
		wantFault(t, "behind a drop", right, drop, ins, drop)
		wantFault(t, "behind an exit", right, num(9, 0), exit(9), ins, drop)
		wantFault(t, "gone over", right, jump(1), ins, drop)
		wantFault(t, "behind what no way comes to", right, jump(3), port(9), less(9, 9, 0), ins, drop)
		wantFault(t, "led to from where no way comes", right, drop, jump(1), drop, ins, drop)
		wantFault(t, "led to from where no way comes", right, drop, equal(0, 0, 1), drop, ins, drop)
		wantFault(t, "over none", fault(Check(code(ins, drop)).Code, 1), jump(0), ins, drop)
		wantFault(t, "where it leads", fault(Check(code(ins, drop)).Code, 2), jump(1), drop, ins, drop)
	}
	wantFault(t, "it makes nothing known", fault(api.ErrUnset, 2), jump(1), num(4, 0), put(4, 1), drop)
	wantFault(t, "it takes nothing away", right, num(4, 0), surely(4, 3), jump(2), port(4), jump(0), load(5, 4, 3, 0), drop)
	wantFault(t, "a way that ends takes nothing away", right, num(4, 0), surely(4, 3), equal(4, 4, 2), port(4), drop, load(5, 4, 3, 0), drop)
}

// The first is told from the front, not the first that a run would come to.
func TestFirst(t *testing.T) {
	wantFault(t, "both wrong", fault(api.ErrUnset, 0), not(0), tail(1), drop)
	wantFault(t, "room ahead of unset", fault(api.ErrRoom, 1), num(0, 1), tail(0), not(1), drop)
	wantFault(t, "a slot ahead of room", fault(api.ErrUnset, 1), num(0, 1), get(1, 0), tail(0), drop)
	wantFault(t, "the way that leads away is longer", fault(api.ErrUnset, 2), num(0, 0), equal(0, 0, 1), not(1), not(2), drop)
	wantFault(t, "what is led over is right", fault(api.ErrUnset, 4), num(0, 0), equal(0, 0, 2), num(1, 0), jump(1), not(1), not(1), drop)
	wantFault(t, "the last", fault(api.ErrUnset, 2), num(0, 0), jump(0), exit(1))
}

// All the instructions that there may be.
func TestMost(t *testing.T) {
	long := func(first api.Ins, between api.Ins, last ...api.Ins) []api.Ins {
		l := append([]api.Ins{first}, slices.Repeat([]api.Ins{between}, 59999-len(last))...)
		return append(l, last...)
	}
	wantFault(t, "60000", right, long(num(0, 0), not(0), exit(0))...)
	wantFault(t, "the last", fault(api.ErrUnset, 59999), long(num(0, 0), not(0), exit(1))...)
	wantFault(t, "over 59998", right, long(jump(59998), not(0), drop)...)
	wantFault(t, "over 59997", fault(api.ErrUnset, 59998), long(jump(59997), not(0), drop)...)
	wantFault(t, "all lead to the end", right, long(num(0, 0), surely(0, 600), tail(0), drop)...)
	// Each leads to the next one, with room, and over it, without: those with odd numbers know of no byte.
	wantFault(t, "each over one, with room", right, long(num(0, 0), room(0, 600, 1), drop, load(1, 0, 1, 0), drop)...)
	wantFault(t, "each over one, without", fault(api.ErrRoom, 59997), long(num(0, 0), room(0, 600, 1), drop, load(1, 0, 1, 0), drop, drop)...)
	l := long(num(0, 0), not(1), exit(1))
	l[1], l[2] = equal(0, 0, 59997), num(1, 0)
	wantFault(t, "the first leads over all", fault(api.ErrUnset, 59999), l...)
}

// A program may have no slots and no tables.
func TestLeast(t *testing.T) {
	for _, p := range []api.Program{{Code: []api.Ins{drop}}, {Tabs: []api.Shape{}, Code: []api.Ins{port(0), exit(0)}}} {
		if f := Check(p); f != right {
			t.Errorf("%v: %v", p, f)
		}
	}
	p := api.Program{Slots: 1, Tabs: []api.Shape{{Keys: 1, Acts: 1}}, Code: []api.Ins{port(0), set(0, 0), call(0, 0, 1, 0), exit(0)}}
	if f := Check(p); f != right {
		t.Errorf("no arguments, behind the last slot: %v", f)
	}
}

// What is handed in is not changed; what lies behind a list's length is neither read nor written; no call knows of another one.
func TestMemory(t *testing.T) {
	build := func() api.Program {
		p := code(num(0, 0), port(2), room(0, 3, 3), load(1, 0, 3, 0), set(1, 0), call(2, 0, 1, 1), exit(2), not(9), tail(9))
		p.Tabs = append(p.Tabs, api.Shape{Keys: 99})
		return p
	}
	p := build()
	p.Code, p.Tabs = p.Code[:7], p.Tabs[:2]
	if f := Check(p); f != right {
		t.Errorf("%v", f)
	}
	bad := code(not(0), drop)
	for range 2 {
		if f := Check(bad); f != fault(api.ErrUnset, 0) {
			t.Errorf("%v", f)
		}
		if f := Check(p); f != right {
			t.Errorf("%v, then", f)
		}
	}
	p.Code, p.Tabs = p.Code[:9], p.Tabs[:3]
	if !reflect.DeepEqual(p, build()) {
		t.Errorf("changed: %v", p)
	}
}
