package vm

import (
	"bytes"
	"math"
	"reflect"
	"slices"
	"strconv"
	"testing"

	"shuntyard/api"
	"shuntyard/pipe"
	"shuntyard/store"
	"shuntyard/sum"
	"shuntyard/word"
)

func fault(code, at int) api.Fault { return api.Fault{Code: code, At: at} }

var right = fault(0, 0)

// Instructions, by their fields in the document's order.

func num(r int, n uint64) api.Ins        { return api.Ins{Op: api.INum, R: r, N: n} }
func move(r, s int) api.Ins              { return api.Ins{Op: api.IMove, R: r, S: s} }
func bin(r, s, k int) api.Ins            { return api.Ins{Op: api.IBin, R: r, S: s, K: k} }
func not(r int) api.Ins                  { return api.Ins{Op: api.INot, R: r} }
func ones(r, s int) api.Ins              { return api.Ins{Op: api.IOnes, R: r, S: s} }
func load(r, s, k int, n uint64) api.Ins { return api.Ins{Op: api.ILoad, R: r, S: s, K: k, N: n} }
func get(r int, n uint64) api.Ins        { return api.Ins{Op: api.IGet, R: r, N: n} }
func set(r int, n uint64) api.Ins        { return api.Ins{Op: api.ISet, R: r, N: n} }
func room(r int, n uint64, to int) api.Ins {
	return api.Ins{Op: api.IRoom, R: r, N: n, To: to}
}
func less(r, s, to int) api.Ins          { return api.Ins{Op: api.ILess, R: r, S: s, To: to} }
func equal(r, s, to int) api.Ins         { return api.Ins{Op: api.IEqual, R: r, S: s, To: to} }
func jump(to int) api.Ins                { return api.Ins{Op: api.IJump, To: to} }
func call(r, s, k int, n uint64) api.Ins { return api.Ins{Op: api.ICall, R: r, S: s, K: k, N: n} }
func put(r, k int) api.Ins               { return api.Ins{Op: api.IPut, R: r, K: k} }
func tail(r int) api.Ins                 { return api.Ins{Op: api.ITail, R: r} }
func exit(r int) api.Ins                 { return api.Ins{Op: api.IExit, R: r} }
func port(r int) api.Ins                 { return api.Ins{Op: api.IPort, R: r} }

var drop = api.Ins{Op: api.IDrop}

// code tells a program without tables, with all slots.
func code(l ...api.Ins) api.Program { return api.Program{Slots: api.MaxSlots, Code: l} }

// out tells what goes out by a port, gone what goes nowhere.
func out(port int, b ...byte) api.Result { return api.Result{Port: port, Bytes: b} }

var gone = api.Result{Port: -1}

func alike(a, b api.Result) bool { return a.Port == b.Port && bytes.Equal(a.Bytes, b.Bytes) }

// times tells n times the same.
func times[T any](n int, x T) []T {
	var l []T
	for range n {
		l = append(l, x)
	}
	return l
}

// wantRun asks for what becomes of a packet, and for how many instructions were done.
func wantRun(t *testing.T, name string, p api.Program, tabs []*store.Store, b []byte, port int, want api.Result, done int) {
	t.Helper()
	got, n, f := Run(p, tabs, b, port)
	if f != right || !alike(got, want) || n != done {
		t.Errorf("%s: %v by %d, %v, want %v by %d", name, got, n, f, want, done)
	}
}

// wantFault asks for a fault, and for nothing beside it.
func wantFault(t *testing.T, name string, p api.Program, tabs []*store.Store, b []byte, port int, want api.Fault) {
	t.Helper()
	got, n, f := Run(p, tabs, b, port)
	if f != want {
		t.Errorf("%s: %v, want %v", name, f, want)
	}
	if !reflect.DeepEqual(got, api.Result{}) || n != 0 {
		t.Errorf("%s: %v by %d beside a fault", name, got, n)
	}
}

// wantNumber asks for what the register 0 has behind these instructions.
func wantNumber(t *testing.T, name string, b []byte, want uint64, l ...api.Ins) {
	t.Helper()
	p := code(append(slices.Clone(l), put(0, 8), num(9, 0), exit(9))...)
	wantRun(t, name, p, nil, b, 0, out(0, bytesOf(want)...), len(l)+3)
}

// bytesOf tells the eight bytes of a number, the uppermost first.
func bytesOf(n uint64) []byte {
	var l []byte
	for range 8 {
		l = append([]byte{byte(n % 256)}, l...)
		n /= 256
	}
	return l
}

// counting tells the bytes 1, 2, 3 and so on.
func counting(n int) []byte {
	var l []byte
	for i := range n {
		l = append(l, byte(i+1))
	}
	return l
}

var edges = []uint64{0, 1, 2, 3, 63, 64, 65, 255, 256, 0xFFFE, 0xFFFF, 0x10000, 0x1FFFE, 1<<32 - 1, 1 << 32, math.MaxInt64, 1 << 63, math.MaxUint64 - 1, math.MaxUint64, 0x0102030405060708, 0xF1E2D3C4B5A69788}

func TestExample(t *testing.T) {
	wantRun(t, "example", code(num(0, 5), exit(0)), nil, nil, 0, out(5), 2)
}

func TestNum(t *testing.T) {
	for _, n := range edges {
		for r := range 10 {
			wantNumber(t, "num", nil, n, num(r, n), move(0, r))
		}
		wantNumber(t, "num anew", nil, n, num(0, ^n), num(0, n))
	}
}

// Each register is its own.
func TestRegisters(t *testing.T) {
	var l []api.Ins
	var want []byte
	for r := range 10 {
		l = append(l, num(r, uint64(r)+100))
	}
	for r := range 10 {
		l = append(l, put(r, 1))
		want = append(want, byte(r)+100)
	}
	wantRun(t, "ten registers", code(append(l, exit(9))...), nil, nil, 0, out(109, want...), 21)
}

// Each slot is its own, and no register.
func TestSlots(t *testing.T) {
	var l []api.Ins
	var want []byte
	for n := range uint64(96) {
		l = append(l, num(3, n+100), set(3, n))
	}
	for n := range uint64(96) {
		l = append(l, get(7, n), put(7, 1))
		want = append(want, byte(n)+100)
	}
	wantRun(t, "96 slots", code(append(l, exit(3))...), nil, nil, 0, out(195, want...), 4*96+1)
	for _, n := range edges {
		wantNumber(t, "there and back", nil, n, num(1, n), set(1, 95), num(1, 7), get(0, 95))
		wantNumber(t, "anew", nil, n, num(1, 7), set(1, 0), num(1, n), set(1, 0), get(0, 0))
	}
}

func TestMove(t *testing.T) {
	wantNumber(t, "move", nil, 7, num(0, 6), num(1, 7), move(0, 1))
	wantNumber(t, "it is a copy", nil, 7, num(1, 7), move(0, 1), num(1, 8))
	wantNumber(t, "what it is of stays", nil, 7, num(0, 7), num(1, 6), move(1, 0), num(1, 5))
	wantNumber(t, "to itself", nil, 7, num(0, 7), move(0, 0))
}

func TestBin(t *testing.T) {
	for k := api.PAdd; k <= api.PEq; k++ {
		for _, a := range edges {
			for _, b := range edges {
				wantNumber(t, "bin "+strconv.Itoa(k), nil, pipe.Apply(k, a, b), num(0, a), num(4, b), bin(0, 4, k))
			}
			wantNumber(t, "of itself "+strconv.Itoa(k), nil, pipe.Apply(k, a, a), num(0, a), bin(0, 0, k))
		}
	}
	wantNumber(t, "less", nil, math.MaxUint64, num(0, 1), num(1, 2), bin(0, 1, api.PSub))
	wantNumber(t, "S stays", nil, 2, num(1, 1), num(0, 2), bin(1, 0, api.PAdd))
}

func TestNot(t *testing.T) {
	for _, n := range edges {
		wantNumber(t, "not", nil, math.MaxUint64-n, num(0, n), not(0))
		wantNumber(t, "twice", nil, n, num(0, n), not(0), not(0))
	}
}

func TestOnes(t *testing.T) {
	for _, a := range edges {
		for _, b := range edges {
			want := sum.Add(int(a%0x10000), int(b%0x10000))
			wantNumber(t, "ones", nil, uint64(want), num(0, a), num(4, b), ones(0, 4))
		}
	}
	wantNumber(t, "what is above is added again", nil, 1, num(0, 0xFFFF), num(1, 1), ones(0, 1))
	wantNumber(t, "all ones stay", nil, 0xFFFF, num(0, 0xFFFF), num(1, 0), ones(0, 1))
	wantNumber(t, "low bits alone", nil, 5, num(0, 0xAAAA0002), num(1, 0xFFFFFFFFFFFF0003), ones(0, 1))
}

func TestPort(t *testing.T) {
	for _, n := range []int{0, 1, 255, 256, 0x1234, 0xFFFE, 0xFFFF} {
		wantRun(t, "port", code(num(5, 99), port(5), put(5, 8), exit(5)), nil, nil, n, out(n, bytesOf(uint64(n))...), 4)
	}
}

func TestExit(t *testing.T) {
	for _, n := range edges {
		wantRun(t, "exit", code(num(8, n), exit(8)), nil, []byte{1}, 3, out(int(n%0x10000)), 2)
	}
}

func TestDrop(t *testing.T) {
	wantRun(t, "drop", code(drop), nil, []byte{1}, 3, gone, 1)
	wantRun(t, "what went out does not go", code(num(0, 0), put(0, 4), tail(0), drop), nil, []byte{1}, 3, gone, 4)
	res, _, _ := Run(code(num(0, 0), put(0, 4), drop), nil, nil, 0)
	if len(res.Bytes) != 0 {
		t.Errorf("%v goes nowhere", res.Bytes)
	}
}

func TestPut(t *testing.T) {
	for k := 1; k <= 8; k++ {
		want := []byte{0xF1, 0xE2, 0xD3, 0xC4, 0xB5, 0xA6, 0x97, 0x88}[8-k:]
		wantRun(t, "put", code(num(2, 0xF1E2D3C4B5A69788), put(2, k), exit(2)), nil, nil, 0, out(0x9788, want...), 3)
	}
	wantRun(t, "in order", code(num(0, 0x0102), put(0, 1), put(0, 2), put(0, 3), exit(0)), nil, nil, 0, out(0x0102, 2, 1, 2, 0, 1, 2), 5)
}

func TestTail(t *testing.T) {
	for _, long := range []int{0, 1, 2, 9, 255, 256, 257, 599, 600} {
		b := counting(long)
		for _, from := range append([]uint64{uint64(long), uint64(long) + 1, uint64(long) - 1, uint64(long) / 2}, edges...) {
			p := code(num(0, from), tail(0), num(0, 0), exit(0))
			if from > uint64(long) {
				wantFault(t, "beyond", p, nil, b, 0, fault(api.ErrRoom, 1))
				continue
			}
			wantRun(t, "tail", p, nil, b, 0, out(0, b[from:]...), 4)
		}
	}
	wantRun(t, "more than once", code(num(0, 1), num(1, 2), tail(0), put(1, 1), tail(1), tail(0), exit(0)), nil, counting(3), 0, out(1, 2, 3, 2, 3, 2, 3), 7)
}

func TestLoad(t *testing.T) {
	for _, long := range []int{0, 1, 7, 8, 9, 16, 599, 600} {
		b := counting(long)
		for k := 1; k <= 8; k++ {
			for from := range 10 {
				for _, n := range []int{0, 1, 2, long - k - from - 1, long - k - from, long - k - from + 1, long, 600} {
					if n < 0 || n > 600 {
						continue
					}
					l := []api.Ins{num(3, uint64(from)), load(0, 3, k, uint64(n))}
					if from+n+k > long {
						wantFault(t, "beyond", code(append(l, drop)...), nil, b, 0, fault(api.ErrRoom, 1))
						continue
					}
					var want uint64
					for _, x := range b[from+n : from+n+k] {
						want = want*256 + uint64(x)
					}
					wantNumber(t, "load", b, want, l...)
				}
			}
		}
	}
}

// A place is reckoned exactly: what would wrap round is beyond the packet.
func TestLoadFarBeyond(t *testing.T) {
	b := counting(600)
	for k := 1; k <= 8; k++ {
		for _, n := range []uint64{0, 1, 7, 8, 9, 599, 600} {
			for back := range uint64(620) {
				p := code(num(3, math.MaxUint64-back), load(3, 3, k, n), drop)
				wantFault(t, "far beyond", p, nil, b, 0, fault(api.ErrRoom, 1))
			}
			for _, from := range []uint64{601, 1 << 16, 1 << 31, 1 << 32, 1<<32 + 1, 1 << 63, 1<<63 - 1} {
				p := code(num(3, from), load(3, 3, k, n), drop)
				wantFault(t, "far beyond", p, nil, b, 0, fault(api.ErrRoom, 1))
			}
		}
	}
}

func TestLoadIntoItsPlace(t *testing.T) {
	wantNumber(t, "of itself", []byte{9, 8, 7}, 0x0807, num(0, 1), load(0, 0, 2, 0))
	wantNumber(t, "the place stays", []byte{9, 8, 7}, 1, num(0, 1), load(5, 0, 2, 0))
}

// over tells a program whose one instruction leads over two, or goes on: it goes out by the port 1 then, else by 2.
func over(ahead []api.Ins, ins api.Ins) api.Program {
	ins.To = 2
	return code(append(slices.Clone(ahead), ins, num(9, 2), exit(9), num(9, 1), exit(9))...)
}

// wantOver asks whether an instruction leads over others.
func wantOver(t *testing.T, name string, b []byte, want bool, ins api.Ins, ahead ...api.Ins) {
	t.Helper()
	by := 2
	if want {
		by = 1
	}
	wantRun(t, name, over(ahead, ins), nil, b, 0, out(by), len(ahead)+3)
}

func TestRoom(t *testing.T) {
	for _, long := range []int{0, 1, 2, 9, 599, 600} {
		b := counting(long)
		for _, from := range []int{0, 1, 2, 5, long - 1, long, long + 1, long + 2, 600, 601} {
			for _, n := range []int{0, 1, 2, 5, long - from - 1, long - from, long - from + 1, long, 600} {
				if n >= 0 && n <= 600 && from >= 0 {
					wantOver(t, "room", b, from+n > long, room(6, uint64(n), 0), num(6, uint64(from)))
				}
			}
		}
		for n := range uint64(601) {
			for _, from := range []uint64{601, 1 << 32, 1 << 63, math.MaxUint64 - 600, math.MaxUint64 - n, math.MaxUint64} {
				wantOver(t, "far beyond", b, true, room(6, n, 0), num(6, from))
			}
			if n > 0 {
				wantOver(t, "where it would wrap round", b, true, room(6, n, 0), num(6, -n))
			}
		}
	}
}

func TestLessAndEqual(t *testing.T) {
	for _, a := range edges {
		for _, b := range edges {
			wantOver(t, "less", nil, a < b, less(1, 8, 0), num(1, a), num(8, b))
			wantOver(t, "equal", nil, a == b, equal(1, 8, 0), num(1, a), num(8, b))
		}
		wantOver(t, "less than itself", nil, false, less(2, 2, 0), num(2, a))
		wantOver(t, "equal to itself", nil, true, equal(2, 2, 0), num(2, a))
	}
}

func TestJump(t *testing.T) {
	wantOver(t, "jump", nil, true, jump(0))
	for to := range 50 {
		l := append([]api.Ins{num(0, 7), jump(to)}, times(to, not(0))...)
		wantRun(t, "over all", code(append(l, exit(0))...), nil, nil, 0, out(7), 3)
		l = append([]api.Ins{num(0, 7), jump(to)}, times(to+1, not(0))...)
		wantRun(t, "over all but one", code(append(l, not(0), exit(0))...), nil, nil, 0, out(7), 5)
	}
}

// An instruction that leads nowhere else goes on with the next one, whatever it asks for.
func TestOverNone(t *testing.T) {
	for _, ins := range []api.Ins{room(0, 0, 0), room(0, 600, 0), less(0, 1, 0), less(1, 0, 0), equal(0, 0, 0), equal(0, 1, 0), jump(0)} {
		wantRun(t, "over none", code(num(0, 0), num(1, 5), ins, put(1, 1), exit(1)), nil, nil, 0, out(5, 5), 5)
	}
}

// What the registers have stays as it is where an instruction asks for them alone.
func TestAskingChangesNothing(t *testing.T) {
	for _, ins := range []api.Ins{room(0, 2, 0), less(0, 1, 0), equal(0, 1, 0), jump(0), set(0, 3), put(0, 1), tail(0)} {
		res, done, f := Run(code(num(0, 1), num(1, 2), ins, bin(0, 1, api.PShl), exit(0)), nil, counting(3), 0)
		if f != right || res.Port != 4 || done != 5 {
			t.Errorf("%v: %v %v", ins, res, f)
		}
	}
}

// Of each instruction: which registers and slots it uses. ErrUnset is told where one of them alone has nothing, and nowhere else.
func TestUnset(t *testing.T) {
	shape := api.Shape{Keys: 3, Acts: 2, Args: 2}
	tab := exactTable(t, 3)
	for _, c := range []struct {
		name  string
		ins   api.Ins
		regs  []int
		slots []int
	}{
		{"INum", num(1, 5), nil, nil},
		{"IMove", move(1, 2), []int{2}, nil},
		{"IBin", bin(1, 2, api.PAdd), []int{1, 2}, nil},
		{"IBin that needs not look", bin(1, 1, api.PXor), []int{1}, nil},
		{"INot", not(1), []int{1}, nil},
		{"IOnes", ones(1, 2), []int{1, 2}, nil},
		{"ILoad", load(1, 2, 1, 0), []int{2}, nil},
		{"ILoad beyond", load(1, 2, 1, 600), []int{2}, nil},
		{"IGet", get(1, 2), nil, []int{2}},
		{"ISet", set(1, 2), []int{1}, nil},
		{"IRoom", room(1, 1, 0), []int{1}, nil},
		{"IRoom of none", room(1, 0, 0), []int{1}, nil},
		{"ILess", less(1, 2, 0), []int{1, 2}, nil},
		{"IEqual", equal(1, 2, 0), []int{1, 2}, nil},
		{"IEqual to itself", equal(1, 1, 0), []int{1}, nil},
		{"IJump", jump(0), nil, nil},
		{"ICall", call(1, 2, 5, 0), nil, []int{2, 3, 4}},
		{"ICall at the end", call(1, 93, 94, 0), nil, []int{93, 94, 95}},
		{"IPut", put(1, 1), []int{1}, nil},
		{"ITail", tail(1), []int{1}, nil},
		{"IExit", exit(1), []int{1}, nil},
		{"IDrop", drop, nil, nil},
		{"IPort", port(1), nil, nil},
	} {
		// All others have a 0, which is not nothing.
		try := func(skipReg, skipSlot int, uses bool) {
			t.Helper()
			l := []api.Ins{}
			for r := range 10 {
				if r != skipReg {
					l = append(l, num(r, 0))
				}
			}
			for n := range 96 {
				if n != skipSlot {
					l = append(l, set((skipReg+1)%10, uint64(n)))
				}
			}
			p := api.Program{Slots: 96, Tabs: []api.Shape{shape}, Code: append(l, c.ins, drop)}
			_, _, f := Run(p, []*store.Store{tab}, counting(3), 0)
			if got := f == fault(api.ErrUnset, len(l)); got != uses {
				t.Errorf("%s without the register %d, the slot %d: %v", c.name, skipReg, skipSlot, f)
			}
		}
		try(-1, -1, false)
		for r := range 10 {
			try(r, -1, slices.Contains(c.regs, r))
		}
		for n := range 96 {
			try(-1, n, slices.Contains(c.slots, n))
		}
	}
}

// What an instruction fills has something from then on.
func TestFilled(t *testing.T) {
	tab := exactTable(t, 1)
	for _, c := range []struct {
		name string
		l    []api.Ins
	}{
		{"INum", []api.Ins{num(5, 0), not(5)}},
		{"IMove", []api.Ins{num(0, 0), move(5, 0), not(5)}},
		{"ILoad", []api.Ins{num(0, 0), load(5, 0, 1, 0), not(5)}},
		{"IGet", []api.Ins{num(0, 0), set(0, 9), get(5, 9), not(5)}},
		{"IPort", []api.Ins{port(5), not(5)}},
		{"ICall", []api.Ins{num(0, 0), set(0, 9), call(5, 9, 3, 0), not(5), get(1, 3), get(1, 4)}},
	} {
		p := api.Program{Slots: 10, Tabs: []api.Shape{{Keys: 1, Acts: 2, Args: 2}}, Code: append(c.l, drop)}
		wantRun(t, c.name, p, []*store.Store{tab}, []byte{0}, 0, gone, len(c.l)+1)
	}
}

// No run knows what another one had.
func TestRunsKnowNothingOfEachOther(t *testing.T) {
	wantRun(t, "one", code(num(0, 5), set(0, 0), put(0, 1), exit(0)), nil, nil, 0, out(5, 5), 4)
	wantFault(t, "a register", code(exit(0)), nil, nil, 0, fault(api.ErrUnset, 0))
	wantFault(t, "a slot", code(get(0, 0), exit(0)), nil, nil, 0, fault(api.ErrUnset, 0))
	wantRun(t, "what goes out", code(num(0, 0), exit(0)), nil, nil, 0, out(0), 2)
}

// What is not done has no fault; what goes out ahead of a fault does not go.
func TestFaultsOfWhatIsDone(t *testing.T) {
	wantRun(t, "over it", code(jump(1), exit(0), drop), nil, nil, 0, gone, 2)
	wantRun(t, "behind an end", code(drop, exit(0)), nil, nil, 0, gone, 1)
	wantFault(t, "the second", code(num(0, 1), put(0, 1), exit(1)), nil, nil, 0, fault(api.ErrUnset, 2))
	wantFault(t, "not the third", code(num(0, 1), tail(0), exit(1)), nil, nil, 0, fault(api.ErrRoom, 1))
	wantFault(t, "unset ahead of room", code(load(0, 0, 8, 600), drop), nil, nil, 0, fault(api.ErrUnset, 0))
	wantFault(t, "where it led", code(num(0, 1), jump(2), drop, drop, not(1), drop), nil, nil, 0, fault(api.ErrUnset, 4))
}

// exactTable tells a table by so many keys of 8 bits: the action 1 says two numbers, the action 0 none, and that is said where no entry fits.
func exactTable(t *testing.T, keys int) *store.Store {
	t.Helper()
	acts := []api.Action{{}, {W: []int{48, 8}}, {W: []int{8, 8, 8}}, {W: []int{8}}}
	return tableOf(t, api.Table{Kind: api.KExact, Acts: []int{0, 1, 2, 3}, Cap: 16}, times(keys, 8), acts)
}

// tableOf tells an empty table.
func tableOf(t *testing.T, tab api.Table, w []int, acts []api.Action) *store.Store {
	t.Helper()
	s, f := store.New(tab, w, acts)
	if f != right {
		t.Fatalf("store.New: %v", f)
	}
	return s
}

// wantDone asks for the code 0 of what was done to a table.
func wantDone(t *testing.T, code int) {
	t.Helper()
	if code != 0 {
		t.Fatalf("a table's code: %d", code)
	}
}

// calling tells a program that calls the table 0 for these keys, and sends out the slots from 10 to 14, of eight bytes each; these were 77 ahead.
func calling(shape api.Shape, keys ...uint64) api.Program {
	p := api.Program{Slots: 96, Tabs: []api.Shape{shape}, Code: []api.Ins{num(0, 77)}}
	for n := range uint64(5) {
		p.Code = append(p.Code, set(0, 10+n))
	}
	for i, k := range keys {
		p.Code = append(p.Code, num(0, k), set(0, uint64(90+i)))
	}
	p.Code = append(p.Code, num(8, 99), call(8, 90, 11, 0))
	for n := range uint64(5) {
		p.Code = append(p.Code, get(0, 10+n), put(0, 8))
	}
	p.Code = append(p.Code, exit(8))
	return p
}

// wantSaid asks for the action and the five slots.
func wantSaid(t *testing.T, name string, p api.Program, tab *store.Store, act int, slots ...uint64) {
	t.Helper()
	var b []byte
	for _, v := range slots {
		b = append(b, bytesOf(v)...)
	}
	wantRun(t, name, p, []*store.Store{tab}, nil, 0, out(act, b...), len(p.Code))
}

func TestCall(t *testing.T) {
	shape := api.Shape{Keys: 1, Acts: 4, Args: 3}
	tab := exactTable(t, 1)
	wantSaid(t, "nothing said", calling(shape, 5), tab, 0, 77, 0, 0, 0, 77)
	wantDone(t, tab.Add(api.Entry{Keys: []uint64{5}, Act: 1, Args: []uint64{1<<48 - 1, 9}}))
	wantDone(t, tab.Add(api.Entry{Keys: []uint64{6}, Act: 2, Args: []uint64{1, 2, 3}}))
	wantDone(t, tab.Add(api.Entry{Keys: []uint64{7}, Act: 3, Args: []uint64{4}}))
	wantSaid(t, "two numbers", calling(shape, 5), tab, 1, 77, 1<<48-1, 9, 0, 77)
	wantSaid(t, "three numbers", calling(shape, 6), tab, 2, 77, 1, 2, 3, 77)
	wantSaid(t, "one number", calling(shape, 7), tab, 3, 77, 4, 0, 0, 77)
	wantSaid(t, "where none fits", calling(shape, 8), tab, 0, 77, 0, 0, 0, 77)
	wantDone(t, tab.Default(api.Hit{Act: 3, Args: []uint64{200}}))
	wantSaid(t, "where none fits, anew", calling(shape, 8), tab, 3, 77, 200, 0, 0, 77)
	wantSaid(t, "a key too wide", calling(shape, 256+5), tab, 3, 77, 200, 0, 0, 77)
	wantSaid(t, "the widest key", calling(shape, math.MaxUint64), tab, 3, 77, 200, 0, 0, 77)
	wantDone(t, tab.Drop(api.Entry{Keys: []uint64{5}}))
	wantSaid(t, "an entry less", calling(shape, 5), tab, 3, 77, 200, 0, 0, 77)

	fewer := api.Shape{Keys: 1, Acts: 4, Args: 1}
	wantSaid(t, "fewer slots", calling(fewer, 7), tab, 3, 77, 4, 77, 77, 77)
	wantDone(t, tab.Default(api.Hit{Act: 0}))
	wantSaid(t, "fewer slots, no number", calling(fewer, 8), tab, 0, 77, 0, 77, 77, 77)
	wantSaid(t, "no slot", calling(api.Shape{Keys: 1, Acts: 1}, 8), tab, 0, 77, 77, 77, 77, 77)
}

func TestCallOfManyKeys(t *testing.T) {
	shape := api.Shape{Keys: 3, Acts: 4, Args: 3}
	tab := exactTable(t, 3)
	wantDone(t, tab.Add(api.Entry{Keys: []uint64{1, 2, 3}, Act: 3, Args: []uint64{9}}))
	wantSaid(t, "in order", calling(shape, 1, 2, 3), tab, 3, 77, 9, 0, 0, 77)
	wantSaid(t, "in another order", calling(shape, 3, 2, 1), tab, 0, 77, 0, 0, 0, 77)
	wantSaid(t, "in another order", calling(shape, 1, 3, 2), tab, 0, 77, 0, 0, 0, 77)
}

func TestCallOfEachKind(t *testing.T) {
	acts := []api.Action{{}, {W: []int{8}}}
	shape := api.Shape{Keys: 1, Acts: 2, Args: 1}
	begin := tableOf(t, api.Table{Kind: api.KPrefix, Acts: []int{0, 1}, Cap: 4}, []int{8}, acts)
	wantDone(t, begin.Add(api.Entry{Keys: []uint64{0x80}, Len: 1, Act: 1, Args: []uint64{1}}))
	wantDone(t, begin.Add(api.Entry{Keys: []uint64{0xC0}, Len: 2, Act: 1, Args: []uint64{2}}))
	wantSaid(t, "a beginning", calling(shape, 0x81), begin, 1, 77, 1, 77, 77, 77)
	wantSaid(t, "a longer one", calling(shape, 0xC1), begin, 1, 77, 2, 77, 77, 77)
	wantSaid(t, "none", calling(shape, 0x41), begin, 0, 77, 0, 77, 77, 77)
	masked := tableOf(t, api.Table{Kind: api.KTernary, Acts: []int{0, 1}, Cap: 4}, []int{8}, acts)
	wantDone(t, masked.Add(api.Entry{Keys: []uint64{1}, Masks: []uint64{1}, Prio: 2, Act: 1, Args: []uint64{1}}))
	wantDone(t, masked.Add(api.Entry{Keys: []uint64{2}, Masks: []uint64{2}, Prio: 1, Act: 1, Args: []uint64{2}}))
	wantSaid(t, "a mask", calling(shape, 5), masked, 1, 77, 1, 77, 77, 77)
	wantSaid(t, "two masks", calling(shape, 7), masked, 1, 77, 2, 77, 77, 77)
	wantSaid(t, "no mask", calling(shape, 4), masked, 0, 77, 0, 77, 77, 77)
	wantSaid(t, "too wide for masks", calling(shape, 0x107), masked, 0, 77, 0, 77, 77, 77)
}

// The keys are read ahead of what is filled, where these are the same slots.
func TestCallIntoItsKeys(t *testing.T) {
	tab := exactTable(t, 2)
	wantDone(t, tab.Add(api.Entry{Keys: []uint64{3, 4}, Act: 1, Args: []uint64{4, 3}}))
	wantDone(t, tab.Add(api.Entry{Keys: []uint64{4, 3}, Act: 3, Args: []uint64{8}}))
	p := api.Program{Slots: 3, Tabs: []api.Shape{{Keys: 2, Acts: 4, Args: 2}}, Code: []api.Ins{
		num(0, 3), set(0, 0), num(0, 4), set(0, 1), call(1, 0, 0, 0), call(2, 0, 1, 0),
		get(3, 0), put(3, 1), get(3, 1), put(3, 1), get(3, 2), put(3, 1), put(1, 1), put(2, 1), exit(0),
	}}
	wantRun(t, "into its keys", p, []*store.Store{tab}, nil, 0, out(4, 4, 8, 0, 1, 3), 15)
}

// Each table is its own; the same one may stand twice.
func TestCallOfManyTables(t *testing.T) {
	acts := times(8, api.Action{})
	var tabs []*store.Store
	for i := range 4 {
		tabs = append(tabs, tableOf(t, api.Table{Kind: api.KExact, Acts: []int{i + 1}, Def: i + 1}, times(1+i%3, 8), acts))
	}
	tabs = append(tabs, tabs[1])
	p := api.Program{Slots: 3, Code: []api.Ins{num(0, 0), set(0, 0), set(0, 1), set(0, 2)}}
	for i, s := range tabs {
		p.Tabs = append(p.Tabs, api.Shape{Keys: s.Keys(), Acts: 8})
		p.Code = append(p.Code, call(1, 0, 0, uint64(i)), put(1, 1))
	}
	p.Code = append(p.Code, exit(0))
	wantRun(t, "five tables", p, tabs, nil, 0, out(0, 1, 2, 3, 4, 2), 15)
}

func TestCallOfWhatHasNoRoom(t *testing.T) {
	acts := []api.Action{{}, {W: []int{8}}, {W: []int{8, 8}}, {W: []int{8, 8, 8}}, {W: []int{8, 8, 8, 8}}, {}, {}, {}, {}, {W: times(40, 8)}}
	for act, a := range acts {
		tab := tableOf(t, api.Table{Kind: api.KExact, Acts: []int{act}, Def: act, Args: make([]uint64, len(a.W))}, []int{8}, acts)
		for most := 1; most <= 8; most++ {
			for args := range 4 {
				p := calling(api.Shape{Keys: 1, Acts: most, Args: args}, 1)
				name := "the action " + strconv.Itoa(act)
				if act >= most || len(a.W) > args {
					wantFault(t, name, p, []*store.Store{tab}, nil, 0, fault(api.ErrKind, 9))
					continue
				}
				slots := []uint64{77, 77, 77, 77, 77}
				clear(slots[1 : 1+args])
				wantSaid(t, name, p, tab, act, slots...)
			}
		}
		unset := api.Program{Slots: 1, Tabs: []api.Shape{{Keys: 1, Acts: 1}}, Code: []api.Ins{call(0, 0, 0, 0), drop}}
		wantFault(t, "unset ahead of what is said", unset, []*store.Store{tab}, nil, 0, fault(api.ErrUnset, 0))
	}
}

func TestWrongStart(t *testing.T) {
	one, two := exactTable(t, 1), exactTable(t, 2)
	shapes := []api.Shape{{Keys: 1, Acts: 1}, {Keys: 2, Acts: 1}}
	end := []api.Ins{drop}
	plain := api.Program{Code: end}
	both := api.Program{Tabs: shapes, Code: end}
	for _, c := range []struct {
		name string
		p    api.Program
		tabs []*store.Store
		long int
		port int
		want api.Fault
	}{
		{"right", both, []*store.Store{one, two}, 600, 0xFFFF, right},
		{"without tables", plain, nil, 0, 0, right},
		{"an empty list of tables", plain, []*store.Store{}, 0, 0, right},

		{"nothing", api.Program{}, nil, 0, 0, fault(api.ErrMany, -1)},
		{"slots", api.Program{Slots: 97, Code: end}, nil, 0, 0, fault(api.ErrRange, -1)},
		{"a shape", api.Program{Tabs: make([]api.Shape, 2), Code: end}, []*store.Store{one, two}, 0, 0, fault(api.ErrRange, -2)},
		{"an instruction", code(drop, not(10), drop), nil, 0, 0, fault(api.ErrForm, 1)},
		{"an instruction that is not done", code(drop, api.Ins{Op: 19}), nil, 0, 0, fault(api.ErrForm, 1)},
		{"a way out", code(drop, jump(1), drop), nil, 0, 0, fault(api.ErrJump, 1)},
		{"no end", code(drop, port(0)), nil, 0, 0, fault(api.ErrEnd, 1)},
		{"the program ahead of tables", code(drop, port(0)), []*store.Store{nil}, 601, -1, fault(api.ErrEnd, 1)},

		{"a table too few", both, []*store.Store{one}, 0, 0, fault(api.ErrMany, -1)},
		{"no tables", both, nil, 0, 0, fault(api.ErrMany, -1)},
		{"a table too many", both, []*store.Store{one, two, two}, 0, 0, fault(api.ErrMany, -1)},
		{"a table of none", plain, []*store.Store{one}, 0, 0, fault(api.ErrMany, -1)},
		{"a nil of none", plain, []*store.Store{nil}, 0, 0, fault(api.ErrMany, -1)},
		{"the first is nil", both, []*store.Store{nil, two}, 0, 0, fault(api.ErrMany, -1)},
		{"the second is nil", both, []*store.Store{one, nil}, 0, 0, fault(api.ErrMany, -1)},
		{"too few keys", both, []*store.Store{one, one}, 0, 0, fault(api.ErrMany, -1)},
		{"too many keys", both, []*store.Store{two, two}, 0, 0, fault(api.ErrMany, -1)},
		{"the other way round", both, []*store.Store{two, one}, 0, 0, fault(api.ErrMany, -1)},
		{"tables ahead of the packet", both, nil, 601, -1, fault(api.ErrMany, -1)},

		{"601 bytes", both, []*store.Store{one, two}, 601, 0, fault(api.ErrLong, -1)},
		{"very many bytes", plain, nil, 1 << 20, 0, fault(api.ErrLong, -1)},
		{"the packet ahead of the port", plain, nil, 601, -1, fault(api.ErrLong, -1)},
		{"the port -1", plain, nil, 600, -1, fault(api.ErrRange, -1)},
		{"the port 0x10000", plain, nil, 600, 0x10000, fault(api.ErrRange, -1)},
		{"the least port", plain, nil, 0, math.MinInt, fault(api.ErrRange, -1)},
		{"the greatest port", plain, nil, 0, math.MaxInt, fault(api.ErrRange, -1)},
		{"a port of more bits", plain, nil, 0, 1 << 32, fault(api.ErrRange, -1)},
		{"the start ahead of the first instruction", code(not(0), drop), nil, 0, -1, fault(api.ErrRange, -1)},
	} {
		if c.want == right {
			wantRun(t, c.name, c.p, c.tabs, make([]byte, c.long), c.port, gone, 1)
			continue
		}
		wantFault(t, c.name, c.p, c.tabs, make([]byte, c.long), c.port, c.want)
	}
}

// A program with all the instructions that there may be: each is done at most once.
func TestMost(t *testing.T) {
	l := append([]api.Ins{num(0, 0)}, times(59998, not(0))...)
	wantRun(t, "60000", code(append(l, exit(0))...), nil, nil, 0, out(0), 60000)
	l[0] = jump(59998)
	wantRun(t, "over 59998", code(append(l, drop)...), nil, nil, 0, gone, 2)
	l = append([]api.Ins{num(0, 0)}, times(59998, jump(0))...)
	wantRun(t, "over none", code(append(l, exit(0))...), nil, nil, 0, out(0), 60000)
	b := counting(600)
	l = append([]api.Ins{num(0, 0)}, times(20000, tail(0))...)
	wantRun(t, "very much goes out", code(append(l, exit(0))...), nil, b, 0, out(0, bytes.Repeat(b, 20000)...), 20002)
}

// What is handed in is not changed, what lies behind a list's length neither read nor written, and what is answered is new.
func TestMemory(t *testing.T) {
	tab := exactTable(t, 1)
	wantDone(t, tab.Add(api.Entry{Keys: []uint64{1}, Act: 1, Args: []uint64{5, 6}}))
	p := api.Program{Slots: 3, Tabs: []api.Shape{{Keys: 1, Acts: 2, Args: 2}}, Code: []api.Ins{
		num(0, 1), set(0, 0), call(1, 0, 1, 0), put(0, 1), tail(0), exit(0), not(0),
	}}
	p.Code = p.Code[:6]
	tabs := append(make([]*store.Store, 0, 4), tab)
	whole := counting(9)
	b := whole[:3]
	entries := tab.All()
	res, _, f := Run(p, tabs, b, 0)
	if f != right || !alike(res, out(1, 1, 2, 3)) {
		t.Fatalf("%v %v", res, f)
	}
	again, _, _ := Run(p, tabs, b, 0)
	for i := range res.Bytes[:cap(res.Bytes)] {
		res.Bytes[:cap(res.Bytes)][i] = 99
	}
	if !alike(again, out(1, 1, 2, 3)) || !bytes.Equal(whole, counting(9)) || !slices.Equal(tabs, []*store.Store{tab}) || tabs[:4][1] != nil {
		t.Errorf("shared: %v %v", again, whole)
	}
	if p.Code[:7][6] != not(0) || word.Check(p) != right || !reflect.DeepEqual(tab.All(), entries) {
		t.Errorf("changed: %v", p)
	}
	b[1] = 50
	if !alike(again, out(1, 1, 2, 3)) {
		t.Errorf("the packet's memory goes out: %v", again)
	}
	wantFault(t, "behind the packet", code(num(0, 0), load(0, 0, 4, 0), drop), nil, b, 0, fault(api.ErrRoom, 1))
	wantFault(t, "behind the packet", code(num(0, 4), tail(0), drop), nil, b, 0, fault(api.ErrRoom, 1))
}
