package word

import (
	"bytes"
	"math"
	"reflect"
	"slices"
	"testing"

	"shuntyard/api"
)

func fault(code, at int) api.Fault { return api.Fault{Code: code, At: at} }

var right = fault(0, 0)

// times tells n times the same.
func times[T any](n int, x T) []T {
	var l []T
	for range n {
		l = append(l, x)
	}
	return l
}

// code tells a program of these instructions, with slots and tables enough.
func code(l ...api.Ins) api.Program {
	return api.Program{Slots: 10, Tabs: []api.Shape{{Keys: 1, Acts: 1}, {Keys: 3, Acts: 8, Args: 2}}, Code: l}
}

// least tells the document's example.
func least() api.Program {
	return api.Program{Code: []api.Ins{{Op: api.IDrop}}}
}

// full tells a program that has each of the eighteen, all its fields other than 0; it is made anew each time.
func full() api.Program {
	return api.Program{
		Slots: 96,
		Tabs:  []api.Shape{{Keys: 3, Acts: 8, Args: 3}, {Keys: 1, Acts: 1}, {Keys: 2, Acts: 5, Args: 1}},
		Code: []api.Ins{
			{Op: api.INum, R: 9, N: 0x0102030405060708},
			{Op: api.IMove, R: 1, S: 9},
			{Op: api.IBin, R: 2, S: 1, K: api.PEq},
			{Op: api.INot, R: 3},
			{Op: api.IOnes, R: 4, S: 3},
			{Op: api.ILoad, R: 5, S: 4, K: 8, N: 600},
			{Op: api.IGet, R: 6, N: 95},
			{Op: api.ISet, R: 7, N: 1},
			{Op: api.IRoom, R: 8, To: 8, N: 599},
			{Op: api.ILess, R: 9, S: 8, To: 7},
			{Op: api.IEqual, R: 1, S: 2, To: 6},
			{Op: api.IJump, To: 1},
			{Op: api.ICall, R: 1, S: 94, K: 95, N: 2},
			{Op: api.IPut, R: 2, K: 1},
			{Op: api.ITail, R: 3},
			{Op: api.IPort, R: 4},
			{Op: api.IExit, R: 5},
			{Op: api.IDrop},
		},
	}
}

// fullBytes tells the bytes of a full program, as they were reckoned by hand.
func fullBytes() []byte {
	return slices.Concat(
		[]byte{83, 87, 1, 96, 3, 3, 8, 3, 1, 1, 0, 2, 5, 1, 0, 18},
		[]byte{1, 9, 0, 0, 0, 0, 1, 2, 3, 4, 5, 6, 7, 8},
		[]byte{2, 1, 9, 0, 0, 0, 0, 0, 0, 0, 0, 0, 0, 0},
		[]byte{3, 2, 1, 12, 0, 0, 0, 0, 0, 0, 0, 0, 0, 0},
		[]byte{4, 3, 0, 0, 0, 0, 0, 0, 0, 0, 0, 0, 0, 0},
		[]byte{5, 4, 3, 0, 0, 0, 0, 0, 0, 0, 0, 0, 0, 0},
		[]byte{6, 5, 4, 8, 0, 0, 0, 0, 0, 0, 0, 0, 2, 88},
		[]byte{7, 6, 0, 0, 0, 0, 0, 0, 0, 0, 0, 0, 0, 95},
		[]byte{8, 7, 0, 0, 0, 0, 0, 0, 0, 0, 0, 0, 0, 1},
		[]byte{9, 8, 0, 0, 0, 8, 0, 0, 0, 0, 0, 0, 2, 87},
		[]byte{10, 9, 8, 0, 0, 7, 0, 0, 0, 0, 0, 0, 0, 0},
		[]byte{11, 1, 2, 0, 0, 6, 0, 0, 0, 0, 0, 0, 0, 0},
		[]byte{12, 0, 0, 0, 0, 1, 0, 0, 0, 0, 0, 0, 0, 0},
		[]byte{13, 1, 94, 95, 0, 0, 0, 0, 0, 0, 0, 0, 0, 2},
		[]byte{14, 2, 0, 1, 0, 0, 0, 0, 0, 0, 0, 0, 0, 0},
		[]byte{15, 3, 0, 0, 0, 0, 0, 0, 0, 0, 0, 0, 0, 0},
		[]byte{18, 4, 0, 0, 0, 0, 0, 0, 0, 0, 0, 0, 0, 0},
		[]byte{16, 5, 0, 0, 0, 0, 0, 0, 0, 0, 0, 0, 0, 0},
		[]byte{17, 0, 0, 0, 0, 0, 0, 0, 0, 0, 0, 0, 0, 0},
	)
}

// alike asks whether two programs are the same, a list without elements being none.
func alike(a, b api.Program) bool {
	return a.Slots == b.Slots && slices.Equal(a.Tabs, b.Tabs) && slices.Equal(a.Code, b.Code)
}

// own tells the same program in memory of its own.
func own(p api.Program) api.Program {
	return api.Program{Slots: p.Slots, Tabs: slices.Clone(p.Tabs), Code: slices.Clone(p.Code)}
}

// wantCheck asks for what is told of a program, by Check and by Encode.
func wantCheck(t *testing.T, name string, p api.Program, want api.Fault) {
	t.Helper()
	if got := Check(p); got != want {
		t.Errorf("%s: %v, want %v", name, got, want)
	}
	b, got := Encode(p)
	if got != want {
		t.Errorf("%s: Encode tells %v, want %v", name, got, want)
	}
	if (len(b) == 0) != (want != right) {
		t.Errorf("%s: %d bytes, %v", name, len(b), got)
	}
}

// wantBytes asks for a right program's bytes, and for the program that they are of.
func wantBytes(t *testing.T, name string, p api.Program, want []byte) {
	t.Helper()
	wantCheck(t, name, p, right)
	if got, f := Encode(p); !bytes.Equal(got, want) || f != right {
		t.Errorf("%s: %v, %v, want %v", name, got, f, want)
	}
	if got, f := Decode(want); !alike(got, p) || f != right {
		t.Errorf("%s: %+v, %v, want %+v", name, got, f, p)
	}
}

// wantFault asks for what Decode tells of bytes that are none of a right program.
func wantFault(t *testing.T, name string, b []byte, want api.Fault) {
	t.Helper()
	got, f := Decode(b)
	if f != want {
		t.Errorf("%s: %v, want %v", name, f, want)
	}
	if !reflect.DeepEqual(got, api.Program{}) {
		t.Errorf("%s: %+v beside a fault", name, got)
	}
}

func TestEnds(t *testing.T) {
	for op := -300; op <= 300; op++ {
		if got, want := Ends(op), op == 16 || op == 17; got != want {
			t.Errorf("%d: %v", op, got)
		}
	}
	for _, op := range []int{math.MinInt, math.MaxInt, 16 + 1<<32, 17 - 1<<32, 16 << 8} {
		if Ends(op) {
			t.Errorf("%d ends", op)
		}
	}
}

func TestExample(t *testing.T) {
	wantBytes(t, "example", least(), []byte{83, 87, 1, 0, 0, 0, 1, 17, 0, 0, 0, 0, 0, 0, 0, 0, 0, 0, 0, 0, 0})
}

func TestFull(t *testing.T) {
	wantBytes(t, "full", full(), fullBytes())
}

// chain tells a program of n instructions, the first of which leads to the last one.
func chain(n int) api.Program {
	l := times(n, api.Ins{Op: api.INot, R: 9})
	l[0] = api.Ins{Op: api.IJump, To: n - 2}
	l[n-1] = api.Ins{Op: api.IExit, R: 9}
	return api.Program{Slots: 96, Tabs: times(5, api.Shape{Keys: 3, Acts: 8, Args: 3}), Code: l}
}

func TestMost(t *testing.T) {
	for _, n := range []int{2, 255, 256, 257, 258, 259, 512, 32770, 59999, 60000} {
		want := slices.Concat([]byte{83, 87, 1, 96, 5}, bytes.Repeat([]byte{3, 8, 3}, 5), []byte{byte(n >> 8), byte(n)})
		want = append(want, 12, 0, 0, 0, byte((n-2)>>8), byte(n-2), 0, 0, 0, 0, 0, 0, 0, 0)
		for range n - 2 {
			want = append(want, 4, 9, 0, 0, 0, 0, 0, 0, 0, 0, 0, 0, 0, 0)
		}
		want = append(want, 16, 9, 0, 0, 0, 0, 0, 0, 0, 0, 0, 0, 0, 0)
		wantBytes(t, "a chain", chain(n), want)
	}
}

func TestNumbers(t *testing.T) {
	for i := range 64 {
		for _, n := range []uint64{1<<i - 1, 1 << i, 1<<i + 1, math.MaxUint64 << i, math.MaxUint64 >> i} {
			want := []byte{83, 87, 1, 0, 0, 0, 2, 1, 0, 0, 0, 0, 0}
			for k := 7; k >= 0; k-- {
				want = append(want, byte(n>>(8*k)))
			}
			want = append(want, 17, 0, 0, 0, 0, 0, 0, 0, 0, 0, 0, 0, 0, 0)
			wantBytes(t, "a number", api.Program{Code: []api.Ins{{Op: api.INum, N: n}, {Op: api.IDrop}}}, want)
		}
	}
}

func TestCheckSizes(t *testing.T) {
	end := []api.Ins{{Op: api.IDrop}}
	wrong := []api.Ins{{Op: 99}}
	shape := api.Shape{Keys: 1, Acts: 1}
	bad := api.Shape{}
	for _, c := range []struct {
		name string
		p    api.Program
		want api.Fault
	}{
		{"no slot", api.Program{Slots: 0, Code: end}, right},
		{"96 slots", api.Program{Slots: 96, Code: end}, right},
		{"97 slots", api.Program{Slots: 97, Code: end}, fault(api.ErrRange, -1)},
		{"-1 slots", api.Program{Slots: -1, Code: end}, fault(api.ErrRange, -1)},
		{"the most slots", api.Program{Slots: math.MaxInt, Code: end}, fault(api.ErrRange, -1)},
		{"the fewest slots", api.Program{Slots: math.MinInt, Code: end}, fault(api.ErrRange, -1)},
		{"256 slots", api.Program{Slots: 256, Code: end}, fault(api.ErrRange, -1)},

		{"5 tables", api.Program{Tabs: times(5, shape), Code: end}, right},
		{"6 tables", api.Program{Tabs: times(6, shape), Code: end}, fault(api.ErrMany, -1)},
		{"256 tables", api.Program{Tabs: times(256, shape), Code: end}, fault(api.ErrMany, -1)},
		{"very many tables", api.Program{Tabs: make([]api.Shape, 1000000), Code: end}, fault(api.ErrMany, -1)},
		{"nothing", api.Program{}, fault(api.ErrMany, -1)},
		{"no instruction", api.Program{Code: []api.Ins{}}, fault(api.ErrMany, -1)},
		{"60000 instructions", api.Program{Code: times(60000, end[0])}, right},
		{"60001 instructions", api.Program{Code: times(60001, end[0])}, fault(api.ErrMany, -1)},
		{"65537 instructions", api.Program{Code: times(65537, end[0])}, fault(api.ErrMany, -1)},
		{"very many instructions", api.Program{Code: make([]api.Ins, 1000000)}, fault(api.ErrMany, -1)},

		{"slots ahead of tables", api.Program{Slots: 97, Tabs: times(6, bad), Code: wrong}, fault(api.ErrRange, -1)},
		{"slots ahead of instructions", api.Program{Slots: 97}, fault(api.ErrRange, -1)},
		{"how many ahead of which tables", api.Program{Tabs: times(6, bad), Code: wrong}, fault(api.ErrMany, -1)},
		{"no instruction ahead of which tables", api.Program{Tabs: times(1, bad)}, fault(api.ErrMany, -1)},
		{"which tables ahead of instructions", api.Program{Tabs: times(1, bad), Code: wrong}, fault(api.ErrRange, -2)},
		{"the first table", api.Program{Tabs: []api.Shape{shape, shape, bad, bad}, Code: end}, fault(api.ErrRange, -4)},
		{"the last table", api.Program{Tabs: []api.Shape{shape, shape, shape, shape, bad}, Code: end}, fault(api.ErrRange, -6)},
		{"instructions ahead of the end", api.Program{Code: []api.Ins{{Op: 99}, {Op: api.INot}}}, fault(api.ErrForm, 0)},
	} {
		wantCheck(t, c.name, c.p, c.want)
	}
}

func TestCheckTables(t *testing.T) {
	edges := []int{math.MinInt, -256, -1, 0, 1, 2, 3, 4, 5, 6, 7, 8, 9, 10, 96, 255, 256, 257, math.MaxInt}
	for at := range 5 {
		for _, keys := range edges {
			for _, acts := range edges {
				for _, args := range edges {
					p := api.Program{Tabs: times(5, api.Shape{Keys: 2, Acts: 2, Args: 2}), Code: least().Code}
					p.Tabs[at] = api.Shape{Keys: keys, Acts: acts, Args: args}
					want := fault(api.ErrRange, -2-at)
					if 1 <= keys && keys <= 3 && 1 <= acts && acts <= 8 && 0 <= args && args <= 3 {
						want = right
					}
					if got := Check(p); got != want {
						t.Errorf("%v: %v, want %v", p.Tabs, got, want)
					}
				}
			}
		}
	}
}

func TestCheckOp(t *testing.T) {
	for op := -300; op <= 300; op++ {
		want := fault(api.ErrForm, 1)
		if op >= 1 && op <= 18 {
			want = right
		}
		ins := api.Ins{Op: op}
		if op == api.IBin {
			ins.K = api.PAdd
		}
		if op == api.ILoad || op == api.IPut {
			ins.K = 1
		}
		p := code(api.Ins{Op: api.INot}, ins, api.Ins{Op: api.INot}, api.Ins{Op: api.IDrop})
		wantCheck(t, "an op", p, want)
	}
	for _, op := range []int{math.MinInt, math.MaxInt, 17 + 1<<8, 17 + 1<<32} {
		wantCheck(t, "a great op", code(api.Ins{Op: op}), fault(api.ErrForm, 0))
	}
}

// Each field is changed in an instruction that is right, to numbers around its edges.
func TestCheckFields(t *testing.T) {
	type span struct{ least, most int } // that of To is no other's
	const end = 30                      // instructions behind the one that is asked
	none, register, to := span{0, 0}, span{0, 9}, span{0, end - 1}
	for _, c := range []struct {
		ins            api.Ins
		r, s, k, to, n span
	}{
		{api.Ins{Op: api.INum}, register, none, none, none, span{0, math.MaxInt}},
		{api.Ins{Op: api.IMove}, register, register, none, none, none},
		{api.Ins{Op: api.IBin, K: 5}, register, register, span{3, 12}, none, none},
		{api.Ins{Op: api.INot}, register, none, none, none, none},
		{api.Ins{Op: api.IOnes}, register, register, none, none, none},
		{api.Ins{Op: api.ILoad, K: 5}, register, register, span{1, 8}, none, span{0, 600}},
		{api.Ins{Op: api.IGet}, register, none, none, none, span{0, 9}},
		{api.Ins{Op: api.ISet}, register, none, none, none, span{0, 9}},
		{api.Ins{Op: api.IRoom}, register, none, none, to, span{0, 600}},
		{api.Ins{Op: api.ILess}, register, register, none, to, none},
		{api.Ins{Op: api.IEqual}, register, register, none, to, none},
		{api.Ins{Op: api.IJump}, none, none, none, to, none},
		{api.Ins{Op: api.ICall}, register, span{0, 9}, span{0, 10}, none, span{0, 1}},
		{api.Ins{Op: api.ICall, N: 1}, register, span{0, 7}, span{0, 8}, none, span{0, 1}},
		{api.Ins{Op: api.IPut, K: 8}, register, none, span{1, 8}, none, none},
		{api.Ins{Op: api.ITail}, register, none, none, none, none},
		{api.Ins{Op: api.IExit}, register, none, none, none, none},
		{api.Ins{Op: api.IDrop}, none, none, none, none, none},
		{api.Ins{Op: api.IPort}, register, none, none, none, none},
	} {
		try := func(n int, s span, set func(i *api.Ins)) {
			t.Helper()
			want := right
			if n < s.least || n > s.most {
				want = fault(api.ErrForm, 1)
				if s == to && n > s.most {
					want = fault(api.ErrJump, 1)
				}
			}
			ins := c.ins
			set(&ins)
			l := append([]api.Ins{{Op: api.INot}, ins}, times(end, api.Ins{Op: api.IDrop})...)
			wantCheck(t, "fields", code(l...), want)
			if t.Failed() {
				t.Fatalf("%+v, %v", ins, s)
			}
		}
		edges := []int{math.MinInt, math.MinInt + 1, -1 << 32, -256, math.MaxInt - 2, math.MaxInt - 1, math.MaxInt, 256, 257, 599, 600, 601, 65536, 1 << 32}
		for n := -20; n <= 110; n++ {
			edges = append(edges, n)
		}
		for _, n := range edges {
			try(n, c.r, func(i *api.Ins) { i.R = n })
			try(n, c.s, func(i *api.Ins) { i.S = n })
			try(n, c.k, func(i *api.Ins) { i.K = n })
			try(n, c.to, func(i *api.Ins) { i.To = n })
			if n >= 0 {
				try(n, c.n, func(i *api.Ins) { i.N = uint64(n) })
			}
		}
		for _, n := range []uint64{1 << 63, 1<<63 + 1, math.MaxUint64 - 1, math.MaxUint64} {
			ins, want := c.ins, fault(api.ErrForm, 0)
			ins.N = n
			if ins.Op == api.INum {
				want = right
			}
			l := append([]api.Ins{ins}, times(end, api.Ins{Op: api.IDrop})...)
			wantCheck(t, "a great number", code(l...), want)
		}
	}
}

// What an instruction may say hangs on how many slots there are, which tables, and what their shapes are.
func TestCheckSlots(t *testing.T) {
	for slots := range 97 {
		for _, op := range []int{api.IGet, api.ISet} {
			for n := range uint64(100) {
				want := fault(api.ErrForm, 0)
				if int(n) < slots {
					want = right
				}
				p := api.Program{Slots: slots, Code: []api.Ins{{Op: op, R: 9, N: n}, {Op: api.IDrop}}}
				if got := Check(p); got != want {
					t.Errorf("%d of %d slots: %v, want %v", n, slots, got, want)
				}
			}
		}
	}
}

func TestCheckCalls(t *testing.T) {
	for _, slots := range []int{0, 1, 2, 3, 4, 95, 96} {
		for keys := 1; keys <= 3; keys++ {
			for args := range 4 {
				for s := -4; s <= 100; s++ {
					for k := -4; k <= 100; k++ {
						want := fault(api.ErrForm, 0)
						if s >= 0 && s+keys <= slots && k >= 0 && k+args <= slots {
							want = right
						}
						p := api.Program{Slots: slots, Tabs: []api.Shape{{Keys: 3, Acts: 1, Args: 3}, {Keys: keys, Acts: 8, Args: args}}}
						p.Code = []api.Ins{{Op: api.ICall, R: 9, S: s, K: k, N: 1}, {Op: api.IDrop}}
						if got := Check(p); got != want {
							t.Fatalf("%d slots, %d keys from %d on, %d arguments from %d on: %v, want %v", slots, keys, s, args, k, got, want)
						}
					}
				}
			}
		}
	}
	for tabs := range 6 {
		for _, n := range []uint64{0, 1, 2, 3, 4, 5, 6, 256, 1 << 32, 1 << 63, math.MaxUint64} {
			want := right
			if n >= uint64(tabs) {
				want = fault(api.ErrForm, 0)
			}
			p := api.Program{Slots: 2, Tabs: times(tabs, api.Shape{Keys: 2, Acts: 1, Args: 2}), Code: []api.Ins{{Op: api.ICall, N: n}, {Op: api.IDrop}}}
			wantCheck(t, "which table", p, want)
		}
	}
}

func TestCheckJumps(t *testing.T) {
	for _, op := range []int{api.IRoom, api.ILess, api.IEqual, api.IJump} {
		for many := 1; many <= 6; many++ {
			for at := range many {
				for to := -2; to <= many+2; to++ {
					l := times(many, api.Ins{Op: api.IExit, R: 1})
					l[at] = api.Ins{Op: op, To: to}
					want := right
					switch {
					case to < 0:
						want = fault(api.ErrForm, at)
					case to >= many-1-at:
						want = fault(api.ErrJump, at)
					}
					wantCheck(t, "a jump", code(l...), want)
				}
			}
		}
		wantCheck(t, "far back", code(api.Ins{Op: op, To: math.MinInt}, api.Ins{Op: api.IDrop}), fault(api.ErrForm, 0))
		wantCheck(t, "far ahead", code(api.Ins{Op: op, To: math.MaxInt}, api.Ins{Op: api.IDrop}), fault(api.ErrJump, 0))
	}
}

func TestCheckEnd(t *testing.T) {
	for _, ins := range full().Code {
		p := full()
		for i := range p.Code {
			if p.Code[i].To > 0 {
				p.Code[i].To = 0
			}
		}
		p.Code = append(p.Code, ins)
		last := len(p.Code) - 1
		want := fault(api.ErrEnd, last)
		switch ins.Op {
		case api.IExit, api.IDrop:
			want = right
		case api.IRoom, api.ILess, api.IEqual, api.IJump:
			want = fault(api.ErrJump, last)
		}
		wantCheck(t, "the last one", p, want)
	}
	wantCheck(t, "only one", code(api.Ins{Op: api.INot}), fault(api.ErrEnd, 0))
}

func TestCheckOrder(t *testing.T) {
	drop, not := api.Ins{Op: api.IDrop}, api.Ins{Op: api.INot}
	form, jump := api.Ins{Op: api.INot, N: 1}, api.Ins{Op: api.IJump, To: 9}
	for _, c := range []struct {
		name string
		p    api.Program
		want api.Fault
	}{
		{"a form, then a jump", code(not, form, jump, drop), fault(api.ErrForm, 1)},
		{"a jump, then a form", code(not, jump, form, drop), fault(api.ErrJump, 1)},
		{"a form and a jump", code(api.Ins{Op: api.IJump, To: 9, R: 1}, drop), fault(api.ErrForm, 0)},
		{"no register and a jump", code(api.Ins{Op: api.ILess, To: 9, S: 10}, drop), fault(api.ErrForm, 0)},
		{"a great number and a jump", code(api.Ins{Op: api.IRoom, To: 9, N: 601}, drop), fault(api.ErrForm, 0)},
		{"a form, and no end", code(not, form, not), fault(api.ErrForm, 1)},
		{"a jump, and no end", code(not, jump, not), fault(api.ErrJump, 1)},
		{"a form at the end", code(not, form), fault(api.ErrForm, 1)},
		{"a form of the last one", code(not, api.Ins{Op: api.IDrop, R: 1}), fault(api.ErrForm, 1)},
		{"an end ahead, and none", code(drop, not), fault(api.ErrEnd, 1)},
		{"the first of two forms", code(form, form, drop), fault(api.ErrForm, 0)},
		{"the first of two jumps", code(jump, jump, drop), fault(api.ErrJump, 0)},
	} {
		wantCheck(t, c.name, c.p, c.want)
	}
}

func TestDecodeShort(t *testing.T) {
	good := fullBytes()
	for n := range good {
		wantFault(t, "a beginning", good[:n], fault(api.ErrShort, n))
	}
	wantFault(t, "nil", nil, fault(api.ErrShort, 0))
	wantFault(t, "no program, four bytes", []byte{9, 9, 9, 9}, fault(api.ErrShort, 4))
	wantFault(t, "255 tables", []byte{83, 87, 1, 0, 255}, fault(api.ErrShort, 5))
	wantFault(t, "255 tables, a byte too few", append([]byte{83, 87, 1, 0, 255}, make([]byte, 766)...), fault(api.ErrShort, 771))
	wantFault(t, "65535 instructions", []byte{83, 87, 1, 0, 0, 255, 255}, fault(api.ErrShort, 7))
	wantFault(t, "65535 instructions, a byte too few", append([]byte{83, 87, 1, 0, 0, 255, 255}, make([]byte, 65535*14-1)...), fault(api.ErrShort, 7+65535*14-1))
	// What is there is not asked, as long as not all is there.
	wantFault(t, "wrong and short", append([]byte{83, 87, 1, 97, 1, 0, 0, 0, 0, 1}, make([]byte, 13)...), fault(api.ErrShort, 23))
}

func TestDecodeMark(t *testing.T) {
	for at := range 3 {
		for x := range 256 {
			b := fullBytes()
			if b[at] == byte(x) {
				continue
			}
			b[at] = byte(x)
			wantFault(t, "another mark", b, fault(api.ErrForm, 0))
			wantFault(t, "another mark, short", b[:5], fault(api.ErrForm, 0))
			wantFault(t, "another mark, short behind", b[:20], fault(api.ErrForm, 0))
			wantFault(t, "another mark, too short", b[:4], fault(api.ErrShort, 4))
			wantFault(t, "another mark, one left", append(b, 0), fault(api.ErrForm, 0))
		}
	}
	wantFault(t, "a plan", []byte{83, 89, 1, 0, 0, 0, 1, 17, 0, 0, 0, 0, 0, 0, 0, 0, 0, 0, 0, 0, 0}, fault(api.ErrForm, 0))
	wantFault(t, "zeros", make([]byte, 21), fault(api.ErrForm, 0))
}

func TestDecodeLeft(t *testing.T) {
	good := fullBytes()
	for n := 1; n <= 30; n++ {
		wantFault(t, "left", append(bytes.Clone(good), make([]byte, n)...), fault(api.ErrForm, len(good)))
	}
	// Ahead of what Check finds.
	wantFault(t, "97 slots, left", append([]byte{83, 87, 1, 97, 0, 0, 0}, 5), fault(api.ErrForm, 7))
	wantFault(t, "97 slots", []byte{83, 87, 1, 97, 0, 0, 0}, fault(api.ErrRange, -1))
	wantFault(t, "very many left", append([]byte{83, 87, 1, 0, 0, 0, 0}, make([]byte, 3000000)...), fault(api.ErrForm, 7))
}

func TestDecodeCheck(t *testing.T) {
	ins := func(op, r, s, k, to, n byte) []byte { return []byte{op, r, s, k, 0, to, 0, 0, 0, 0, 0, 0, 0, n} }
	drop := ins(17, 0, 0, 0, 0, 0)
	for _, c := range []struct {
		name string
		b    []byte
		want api.Fault
	}{
		{"97 slots", slices.Concat([]byte{83, 87, 1, 97, 0, 0, 1}, drop), fault(api.ErrRange, -1)},
		{"255 slots", slices.Concat([]byte{83, 87, 1, 255, 0, 0, 1}, drop), fault(api.ErrRange, -1)},
		{"6 tables", slices.Concat([]byte{83, 87, 1, 0, 6}, bytes.Repeat([]byte{1, 1, 1}, 6), []byte{0, 1}, drop), fault(api.ErrMany, -1)},
		{"255 tables", slices.Concat([]byte{83, 87, 1, 0, 255}, bytes.Repeat([]byte{1, 1, 1}, 255), []byte{0, 1}, drop), fault(api.ErrMany, -1)},
		{"no instruction", []byte{83, 87, 1, 0, 0, 0, 0}, fault(api.ErrMany, -1)},
		{"60001 instructions", slices.Concat([]byte{83, 87, 1, 0, 0, 234, 97}, bytes.Repeat(drop, 60001)), fault(api.ErrMany, -1)},
		{"65535 instructions", slices.Concat([]byte{83, 87, 1, 0, 0, 255, 255}, bytes.Repeat(drop, 65535)), fault(api.ErrMany, -1)},
		{"no key", slices.Concat([]byte{83, 87, 1, 0, 1, 0, 1, 0, 0, 1}, drop), fault(api.ErrRange, -2)},
		{"9 actions", slices.Concat([]byte{83, 87, 1, 0, 2, 1, 1, 0, 1, 9, 0, 0, 1}, drop), fault(api.ErrRange, -3)},
		{"255 arguments", slices.Concat([]byte{83, 87, 1, 0, 2, 1, 1, 0, 1, 8, 255, 0, 1}, drop), fault(api.ErrRange, -3)},
		{"no op", slices.Concat([]byte{83, 87, 1, 0, 0, 0, 2}, ins(0, 0, 0, 0, 0, 0), drop), fault(api.ErrForm, 0)},
		{"the op 19", slices.Concat([]byte{83, 87, 1, 0, 0, 0, 2}, ins(4, 0, 0, 0, 0, 0), ins(19, 0, 0, 0, 0, 0)), fault(api.ErrForm, 1)},
		{"the register 10", slices.Concat([]byte{83, 87, 1, 0, 0, 0, 2}, ins(4, 10, 0, 0, 0, 0), drop), fault(api.ErrForm, 0)},
		{"a field that it does not have", slices.Concat([]byte{83, 87, 1, 0, 0, 0, 1}, ins(17, 0, 0, 0, 0, 1)), fault(api.ErrForm, 0)},
		{"over 256 instructions", slices.Concat([]byte{83, 87, 1, 0, 0, 0, 2}, []byte{12, 0, 0, 0, 1, 0, 0, 0, 0, 0, 0, 0, 0, 0}, drop), fault(api.ErrJump, 0)},
		{"over 65535 instructions", slices.Concat([]byte{83, 87, 1, 0, 0, 0, 2}, []byte{12, 0, 0, 0, 255, 255, 0, 0, 0, 0, 0, 0, 0, 0}, drop), fault(api.ErrJump, 0)},
		{"no end", slices.Concat([]byte{83, 87, 1, 0, 0, 0, 2}, drop, ins(4, 0, 0, 0, 0, 0)), fault(api.ErrEnd, 1)},
	} {
		wantFault(t, c.name, c.b, c.want)
	}
}

// With a fault nothing else is told, not even of what was right.
func TestNothingBesideAFault(t *testing.T) {
	p := full()
	p.Code[17].Op = api.INot
	if b, f := Encode(p); len(b) != 0 || f != fault(api.ErrEnd, 17) {
		t.Errorf("%v, %v", b, f)
	}
	b := fullBytes()
	b[len(b)-14] = api.INot
	wantFault(t, "no end", b, fault(api.ErrEnd, 17))
}

func TestNothingIsChangedOrShared(t *testing.T) {
	p := full()
	first, _ := Encode(p)
	second, _ := Encode(p)
	Check(p)
	if !alike(p, full()) {
		t.Error("a program was changed")
	}
	for i := range first {
		first[i] = 0xEE
	}
	if !alike(p, full()) || !bytes.Equal(second, fullBytes()) {
		t.Error("bytes share memory")
	}
	for i := range p.Code {
		p.Code[i] = api.Ins{Op: 77}
	}
	if !bytes.Equal(second, fullBytes()) {
		t.Error("a program was kept")
	}

	b := fullBytes()
	one, _ := Decode(b)
	two, _ := Decode(b)
	if !bytes.Equal(b, fullBytes()) {
		t.Error("bytes were changed")
	}
	for i := range b {
		b[i] = 0xEE
	}
	if !alike(one, full()) {
		t.Error("bytes were kept")
	}
	clear(one.Code)
	clear(one.Tabs)
	one.Tabs = append(one.Tabs, api.Shape{Keys: 77})
	one.Code = append(one.Code, api.Ins{Op: 77})
	if !alike(two, full()) {
		t.Error("two programs share memory")
	}
}

// What lies behind a list's length is neither read nor written.
func TestBehindTheLength(t *testing.T) {
	p := full()
	p.Code = append(p.Code, api.Ins{Op: 77}, api.Ins{Op: api.IDrop})[:18]
	p.Tabs = append(p.Tabs, api.Shape{Keys: 77})[:3]
	if b, f := Encode(p); !bytes.Equal(b, fullBytes()) || f != right {
		t.Errorf("%v, %v", b, f)
	}
	if p.Code[:19][18].Op != 77 || p.Tabs[:4][3].Keys != 77 {
		t.Error("Encode wrote behind a list")
	}
	short := code(api.Ins{Op: api.IJump, To: 1}, api.Ins{Op: api.INot}, api.Ins{Op: api.IDrop})
	short.Code = short.Code[:2]
	wantCheck(t, "an end behind the end", short, fault(api.ErrJump, 0))
	call := api.Program{Slots: 1, Tabs: []api.Shape{{Keys: 1, Acts: 1}, {Keys: 1, Acts: 1}}[:1], Code: []api.Ins{{Op: api.ICall, N: 1}, {Op: api.IDrop}}}
	wantCheck(t, "a table behind the end", call, fault(api.ErrForm, 0))

	all := append(fullBytes(), 0xEE, 0xEE)
	n := len(all) - 2
	if got, f := Decode(all[:n]); !alike(got, full()) || f != right {
		t.Errorf("%+v, %v", got, f)
	}
	for i := range n {
		wantFault(t, "bytes behind the end", all[:i], fault(api.ErrShort, i))
	}
	if !bytes.Equal(all, append(fullBytes(), 0xEE, 0xEE)) {
		t.Error("Decode wrote")
	}
}

// A list without elements is the same, nil or not.
func TestEmptyLists(t *testing.T) {
	want, _ := Encode(least())
	p := least()
	p.Tabs = []api.Shape{}
	if got, f := Encode(p); !bytes.Equal(got, want) || f != right {
		t.Errorf("%v, %v", got, f)
	}
	wantCheck(t, "no instruction", api.Program{Tabs: []api.Shape{}, Code: []api.Ins{}}, fault(api.ErrMany, -1))
	wantCheck(t, "nil", api.Program{}, fault(api.ErrMany, -1))
	wantFault(t, "no bytes", []byte{}, fault(api.ErrShort, 0))
}
