package bits

import (
	"fmt"
	"math"
	"math/rand"
	"slices"
	"strconv"
	"strings"
	"testing"

	"shuntyard/api"
)

// The tests hold the package against texts of '0' and '1': they share no shift and no mask with it.

func text(b []byte) string {
	var s strings.Builder
	for _, x := range b {
		fmt.Fprintf(&s, "%08b", x)
	}
	return s.String()
}

func low(v uint64, w int) string {
	return fmt.Sprintf("%064b", v)[64-w:]
}

func number(t *testing.T, s string) uint64 {
	t.Helper()
	v, err := strconv.ParseUint(s, 2, 64)
	if err != nil {
		t.Fatal(err)
	}
	return v
}

func fault(code, at int) api.Fault { return api.Fault{Code: code, At: at} }

var none = api.Fault{}

func noise(r *rand.Rand, n int) []byte {
	b := make([]byte, n)
	for i := range b {
		b[i] = byte(r.Intn(256))
	}
	return b
}

func TestMask(t *testing.T) {
	for w := 1; w <= 64; w++ {
		if got, want := Mask(w), number(t, strings.Repeat("1", w)); got != want {
			t.Errorf("Mask(%d): %#x, want %#x", w, got, want)
		}
	}
	for _, w := range []int{0, -1, -63, -64, 65, 128, math.MinInt, math.MaxInt} {
		if got := Mask(w); got != 0 {
			t.Errorf("Mask(%d): %#x, want 0", w, got)
		}
	}
}

func TestGetExample(t *testing.T) {
	if v, f := Get([]byte{0xAB, 0xCD}, 4, 8); v != 0xBC || f != none {
		t.Errorf("%#x %v", v, f)
	}
}

func TestGetEverywhere(t *testing.T) {
	r := rand.New(rand.NewSource(1))
	for n := 1; n <= 10; n++ {
		b := noise(r, n)
		s := text(b)
		for w := 1; w <= 64; w++ {
			for at := 0; at+w <= len(s); at++ {
				if v, f := Get(b, at, w); v != number(t, s[at:at+w]) || f != none {
					t.Fatalf("Get(%s, %d, %d): %b %v", s, at, w, v, f)
				}
			}
		}
	}
}

func TestPutEverywhere(t *testing.T) {
	r := rand.New(rand.NewSource(2))
	for n := 1; n <= 10; n++ {
		b := noise(r, n)
		s := text(b)
		for w := 1; w <= 64; w++ {
			for at := 0; at+w <= len(s); at++ {
				for _, v := range []uint64{0, math.MaxUint64, r.Uint64()} {
					got, f := Put(b, at, w, v)
					want := s[:at] + low(v, w) + s[at+w:]
					if text(got) != want || f != none {
						t.Fatalf("Put(%s, %d, %d, %b): %s %v, want %s", s, at, w, v, text(got), f, want)
					}
				}
			}
		}
		if text(b) != s {
			t.Fatal("Put changed what it was given")
		}
	}
}

// What was put is got.
func TestPutThenGet(t *testing.T) {
	r := rand.New(rand.NewSource(3))
	for range 2000 {
		b := noise(r, 8+r.Intn(8))
		w := 1 + r.Intn(64)
		at := r.Intn(len(b)*8 - w + 1)
		v := r.Uint64()
		p, f := Put(b, at, w, v)
		if f != none {
			t.Fatal(f)
		}
		if got, f := Get(p, at, w); got != v&Mask(w) || f != none {
			t.Fatalf("put %#x at %d of %d, got %#x %v", v, at, w, got, f)
		}
	}
}

type wrongAsk struct {
	b     []byte
	at, w int
	code  int
}

func wrongAsks() []wrongAsk {
	two := []byte{0xFF, 0xFF}
	l := []wrongAsk{
		{two, 9, 8, api.ErrRange}, {two, 16, 1, api.ErrRange}, {two, 0, 17, api.ErrRange},
		{two, 0, 64, api.ErrRange}, {two, 15, 2, api.ErrRange}, {two, 1 << 20, 1, api.ErrRange},
		{two, -1, 1, api.ErrRange}, {two, -1, 8, api.ErrRange}, {two, -8, 8, api.ErrRange},
		{nil, 0, 1, api.ErrRange}, {[]byte{}, 0, 64, api.ErrRange}, {nil, -1, 1, api.ErrRange},
		{make([]byte, 8), 1, 64, api.ErrRange},
		{two, math.MaxInt, 1, api.ErrRange}, {two, math.MaxInt, 64, api.ErrRange},
		{two, math.MaxInt - 63, 64, api.ErrRange}, {two, math.MinInt, 1, api.ErrRange},
		{two, math.MinInt, 64, api.ErrRange}, {two, math.MinInt + 1, 64, api.ErrRange},
	}
	for _, w := range []int{0, -1, -8, 65, 1000, math.MinInt, math.MaxInt} {
		// A wrong width is told ahead of bits that are not there.
		for _, at := range []int{0, -1, 16, 17, math.MinInt, math.MaxInt} {
			l = append(l, wrongAsk{two, at, w, api.ErrWidth}, wrongAsk{nil, at, w, api.ErrWidth})
		}
		l = append(l, wrongAsk{make([]byte, 200), 3, w, api.ErrWidth})
	}
	return l
}

func TestGetWrong(t *testing.T) {
	for _, a := range wrongAsks() {
		if v, f := Get(a.b, a.at, a.w); v != 0 || f != fault(a.code, -1) {
			t.Errorf("Get of %d bytes at %d of %d: %d %v, want the code %d", len(a.b), a.at, a.w, v, f, a.code)
		}
	}
}

func TestPutWrong(t *testing.T) {
	for _, a := range wrongAsks() {
		was := slices.Clone(a.b)
		if b, f := Put(a.b, a.at, a.w, 5); b != nil || f != fault(a.code, -1) {
			t.Errorf("Put into %d bytes at %d of %d: %v %v, want the code %d", len(a.b), a.at, a.w, b, f, a.code)
		}
		if !slices.Equal(a.b, was) {
			t.Errorf("Put at %d of %d changed what it was given", a.at, a.w)
		}
	}
}

func TestPutIsNewMemory(t *testing.T) {
	b := []byte{1, 2, 3}
	p, _ := Put(b, 8, 8, 9)
	p[0], p[2] = 77, 78
	if !slices.Equal(b, []byte{1, 2, 3}) {
		t.Errorf("the answer shares memory with the argument: %v", b)
	}
	if q, _ := Put(b, 8, 8, 9); !slices.Equal(q, []byte{1, 9, 3}) {
		t.Errorf("asked again: %v", q)
	}
	// Nothing is changed by this one, and still it is new.
	p, _ = Put(b, 0, 8, 1)
	p[0] = 0
	if b[0] != 1 {
		t.Error("an answer alike shares memory with the argument")
	}
}

func TestBehindTheLength(t *testing.T) {
	full := []byte{1, 2, 3, 4}
	b := full[:2]
	if v, f := Get(b, 9, 8); v != 0 || f != fault(api.ErrRange, -1) {
		t.Errorf("Get: %d %v", v, f)
	}
	if p, f := Put(b, 16, 8, 9); p != nil || f != fault(api.ErrRange, -1) {
		t.Errorf("Put beyond: %v %v", p, f)
	}
	p, f := Put(b, 8, 8, 9)
	if !slices.Equal(p, []byte{1, 9}) || f != none {
		t.Errorf("Put: %v %v", p, f)
	}
	if l, f := Part(b, 8, []int{8, 8}); l != nil || f != fault(api.ErrRange, 1) {
		t.Errorf("Part: %v %v", l, f)
	}
	numbers, widths := []uint64{1, 2, 3}, []int{8, 8, 0}
	if j, f := Join(numbers[:2], widths[:2]); !slices.Equal(j, []byte{1, 2}) || f != none {
		t.Errorf("Join: %v %v", j, f)
	}
	if j, f := Join(numbers[:2], widths[:1]); j != nil || f != fault(api.ErrMany, -1) {
		t.Errorf("Join of other lengths: %v %v", j, f)
	}
	if l, f := Part(b, 0, widths[:2]); !slices.Equal(l, []uint64{1, 2}) || f != none {
		t.Errorf("Part: %v %v", l, f)
	}
	if !slices.Equal(full, []byte{1, 2, 3, 4}) || !slices.Equal(numbers, []uint64{1, 2, 3}) || !slices.Equal(widths, []int{8, 8, 0}) {
		t.Errorf("changed: %v %v %v", full, numbers, widths)
	}
}

func TestJoin(t *testing.T) {
	most := uint64(math.MaxUint64)
	for _, c := range []struct {
		v    []uint64
		w    []int
		want []byte
	}{
		{nil, nil, nil},
		{[]uint64{}, nil, nil},
		{nil, []int{}, nil},
		{[]uint64{5, 1}, []int{3, 5}, []byte{0xA1}},
		{[]uint64{5, 1, 1}, []int{3, 5, 2}, []byte{0xA1, 0x40}},
		{[]uint64{1}, []int{1}, []byte{0x80}},
		{[]uint64{most}, []int{1}, []byte{0x80}},
		{[]uint64{most, 0}, []int{4, 4}, []byte{0xF0}},
		{[]uint64{0, most}, []int{7, 2}, []byte{0x01, 0x80}},
		{[]uint64{0x1FF}, []int{8}, []byte{0xFF}},
		{[]uint64{0x0102030405060708}, []int{64}, []byte{1, 2, 3, 4, 5, 6, 7, 8}},
		{[]uint64{0, most}, []int{1, 64}, []byte{0x7F, 255, 255, 255, 255, 255, 255, 255, 0x80}},
	} {
		if got, f := Join(c.v, c.w); !slices.Equal(got, c.want) || f != none {
			t.Errorf("Join(%v, %v): %x %v, want %x", c.v, c.w, got, f, c.want)
		}
	}
}

func TestJoinWrong(t *testing.T) {
	for _, c := range []struct {
		v    []uint64
		w    []int
		want api.Fault
	}{
		{[]uint64{1}, nil, fault(api.ErrMany, -1)},
		{nil, []int{1}, fault(api.ErrMany, -1)},
		{[]uint64{1, 2}, []int{8}, fault(api.ErrMany, -1)},
		{[]uint64{1}, []int{8, 8}, fault(api.ErrMany, -1)},
		{[]uint64{1}, []int{0, 65}, fault(api.ErrMany, -1)},
		{nil, []int{0}, fault(api.ErrMany, -1)},
		{[]uint64{1}, []int{0}, fault(api.ErrWidth, 0)},
		{[]uint64{1}, []int{-1}, fault(api.ErrWidth, 0)},
		{[]uint64{1}, []int{65}, fault(api.ErrWidth, 0)},
		{[]uint64{1, 2, 3}, []int{1, 64, 65}, fault(api.ErrWidth, 2)},
		{[]uint64{1, 2, 3}, []int{8, 0, 65}, fault(api.ErrWidth, 1)},
		{[]uint64{1, 2, 3}, []int{8, math.MaxInt, math.MaxInt}, fault(api.ErrWidth, 1)},
		{[]uint64{1, 2, 3}, []int{math.MinInt, 8, 8}, fault(api.ErrWidth, 0)},
	} {
		if got, f := Join(c.v, c.w); got != nil || f != c.want {
			t.Errorf("Join(%v, %v): %v %v, want %v", c.v, c.w, got, f, c.want)
		}
	}
}

func TestPart(t *testing.T) {
	b := []byte{0xA1, 0x40, 0xFF}
	for _, c := range []struct {
		at   int
		w    []int
		want []uint64
	}{
		{0, []int{3, 5, 2}, []uint64{5, 1, 1}},
		{3, []int{5, 2}, []uint64{1, 1}},
		{0, []int{24}, []uint64{0xA140FF}},
		{12, []int{4, 8}, []uint64{0, 0xFF}},
		{23, []int{1}, []uint64{1}},
		{0, nil, nil},
		{24, []int{}, nil},
		// No number is asked for: there is none that Get does not tell.
		{-1, nil, nil},
		{1000, nil, nil},
		{math.MinInt, nil, nil},
		{math.MaxInt, nil, nil},
	} {
		if got, f := Part(b, c.at, c.w); !slices.Equal(got, c.want) || f != none {
			t.Errorf("Part at %d of %v: %v %v, want %v", c.at, c.w, got, f, c.want)
		}
	}
}

func TestPartWrong(t *testing.T) {
	b := []byte{0xA1, 0x40}
	for _, c := range []struct {
		at   int
		w    []int
		want api.Fault
	}{
		{0, []int{8, 9}, fault(api.ErrRange, 1)},
		{0, []int{8, 8, 1}, fault(api.ErrRange, 2)},
		{0, []int{17}, fault(api.ErrRange, 0)},
		{16, []int{1}, fault(api.ErrRange, 0)},
		{-1, []int{1, 8}, fault(api.ErrRange, 0)},
		{-1, []int{0}, fault(api.ErrWidth, 0)},
		{0, []int{0}, fault(api.ErrWidth, 0)},
		{0, []int{8, 65}, fault(api.ErrWidth, 1)},
		{0, []int{8, -8, 8}, fault(api.ErrWidth, 1)},
		{0, []int{8, 9, 0}, fault(api.ErrRange, 1)},
		{0, []int{8, 0, 9}, fault(api.ErrWidth, 1)},
		{0, []int{16, 0}, fault(api.ErrWidth, 1)},
		{math.MaxInt, []int{64, 64}, fault(api.ErrRange, 0)},
		{math.MinInt, []int{64, 64}, fault(api.ErrRange, 0)},
		{0, []int{1, math.MaxInt}, fault(api.ErrWidth, 1)},
		{1, []int{math.MinInt}, fault(api.ErrWidth, 0)},
	} {
		if got, f := Part(b, c.at, c.w); got != nil || f != c.want {
			t.Errorf("Part at %d of %v: %v %v, want %v", c.at, c.w, got, f, c.want)
		}
	}
	if got, f := Part(nil, 0, []int{1}); got != nil || f != fault(api.ErrRange, 0) {
		t.Errorf("Part of no bytes: %v %v", got, f)
	}
}

// What was joined is parted.
func TestJoinThenPart(t *testing.T) {
	r := rand.New(rand.NewSource(4))
	for range 2000 {
		n := r.Intn(20)
		v, w, want, s := make([]uint64, n), make([]int, n), make([]uint64, n), ""
		for i := range n {
			v[i], w[i] = r.Uint64(), 1+r.Intn(64)
			want[i] = number(t, low(v[i], w[i]))
			s += low(v[i], w[i])
		}
		for len(s)%8 != 0 {
			s += "0"
		}
		v0, w0 := slices.Clone(v), slices.Clone(w)
		b, f := Join(v, w)
		if text(b) != s || f != none {
			t.Fatalf("Join(%v, %v): %s %v, want %s", v, w, text(b), f, s)
		}
		if got, f := Part(b, 0, w); !slices.Equal(got, want) || f != none {
			t.Fatalf("Part: %v %v, want %v", got, f, want)
		}
		if !slices.Equal(v, v0) || !slices.Equal(w, w0) || text(b) != s {
			t.Fatal("an argument was changed")
		}
	}
}

// Part tells what Get tells, number by number, and stops where Get does.
func TestPartIsGets(t *testing.T) {
	r := rand.New(rand.NewSource(5))
	for range 3000 {
		b := noise(r, r.Intn(30))
		at, w := r.Intn(40)-3, make([]int, r.Intn(8))
		for i := range w {
			w[i] = r.Intn(68) - 1
		}
		var want []uint64
		wantFault, k := none, at
		for i := range w {
			v, f := Get(b, k, w[i])
			if f != none {
				want, wantFault = nil, fault(f.Code, i)
				break
			}
			want = append(want, v)
			k += w[i]
		}
		if got, f := Part(b, at, w); !slices.Equal(got, want) || f != wantFault {
			t.Fatalf("Part(%x, %d, %v): %v %v, want %v %v", b, at, w, got, f, want, wantFault)
		}
	}
}

// A Join that copied its bytes for each number would take minutes here.
func TestManyNumbers(t *testing.T) {
	n := 1 << 18
	v, w := make([]uint64, n), make([]int, n)
	for i := range n {
		v[i], w[i] = uint64(i), 1+i%64
	}
	b, f := Join(v, w)
	if f != none || len(b) != n/64*(64*65/2)/8 {
		t.Fatalf("%d bytes, %v", len(b), f)
	}
	got, f := Part(b, 0, w)
	if f != none || len(got) != n {
		t.Fatalf("%d numbers, %v", len(got), f)
	}
	for i := range n {
		if got[i] != v[i]&Mask(w[i]) {
			t.Fatalf("the number %d: %d", i, got[i])
		}
	}
}
