package pack

import (
	"math"
	"math/big"
	"math/rand"
	"slices"
	"testing"

	"shuntyard/api"
)

// The tests hold a header's bytes against one great number, made of its fields by factors: they share no bit by bit work with the package.

func head(w ...int) api.Header { return api.Header{W: w} }

func fault(code, at int) api.Fault { return api.Fault{Code: code, At: at} }

// repeat tells n times the width w.
func repeat(n, w int) api.Header {
	l := make([]int, n)
	for i := range l {
		l[i] = w
	}
	return api.Header{W: l}
}

func power(w int) *big.Int {
	p := big.NewInt(1)
	for range w {
		p.Add(p, p)
	}
	return p
}

// bytesByNumber tells the bytes of a header that is known to be right.
func bytesByNumber(w []int, v []uint64) []byte {
	total, n := 0, new(big.Int)
	for i := range w {
		n.Mul(n, power(w[i]))
		n.Add(n, new(big.Int).SetUint64(v[i]))
		total += w[i]
	}
	return n.FillBytes(make([]byte, total/8))
}

// sumByNumber tells 0xFFFF less the sum of the words of b.
func sumByNumber(b []byte) int {
	total := 0
	for i, x := range b {
		if i%2 == 0 {
			total += 256 * int(x)
		} else {
			total += int(x)
		}
	}
	if total == 0 {
		return 0xFFFF
	}
	return 0xFFFF - ((total-1)%0xFFFF + 1)
}

// wantSize goes by the point's words, one after the other.
func wantSize(w []int) (int, api.Fault) {
	if len(w) == 0 || len(w) > 8 {
		return 0, fault(api.ErrMany, -1)
	}
	if i := slices.IndexFunc(w, func(x int) bool { return x < 1 || x > 48 }); i >= 0 {
		return 0, fault(api.ErrWidth, i)
	}
	total := 0
	for _, x := range w {
		total += x
	}
	if total%8 != 0 || total > 256 {
		return 0, fault(api.ErrWidth, -1)
	}
	return total / 8, api.Fault{}
}

// someWidths tells a right header's widths, of 1 to 8 fields.
func someWidths(r *rand.Rand) []int {
	for {
		w := make([]int, 1+r.Intn(8))
		for i := range w {
			w[i] = 1 + r.Intn(48)
		}
		if _, f := wantSize(w); f.Code == 0 {
			return w
		}
	}
}

// someFields tells numbers that fit the widths, the least and the greatest among them.
func someFields(r *rand.Rand, w []int) []uint64 {
	v := make([]uint64, len(w))
	for i := range w {
		top := power(w[i]).Uint64() - 1
		switch r.Intn(4) {
		case 0:
			v[i] = 0
		case 1:
			v[i] = top
		default:
			v[i] = r.Uint64() % (top + 1)
		}
	}
	return v
}

func TestSizeExamples(t *testing.T) {
	for _, c := range []struct {
		h    api.Header
		want int
		f    api.Fault
	}{
		{head(4, 12, 16), 4, fault(0, 0)},
		{head(8), 1, fault(0, 0)},
		{head(48), 6, fault(0, 0)},
		{repeat(8, 1), 1, fault(0, 0)},
		{repeat(8, 32), 32, fault(0, 0)},
		{head(48, 48, 48, 48, 48, 16), 32, fault(0, 0)},
		{head(1, 7), 1, fault(0, 0)},
		{api.Header{}, 0, fault(api.ErrMany, -1)},
		{head([]int{}...), 0, fault(api.ErrMany, -1)},
		{repeat(9, 8), 0, fault(api.ErrMany, -1)},
		{repeat(9, 0), 0, fault(api.ErrMany, -1)},
		{repeat(100000, 8), 0, fault(api.ErrMany, -1)},
		{head(0), 0, fault(api.ErrWidth, 0)},
		{head(-8), 0, fault(api.ErrWidth, 0)},
		{head(49), 0, fault(api.ErrWidth, 0)},
		{head(56), 0, fault(api.ErrWidth, 0)},
		{head(8, 8, 0), 0, fault(api.ErrWidth, 2)},
		{head(8, 49, 0, 7), 0, fault(api.ErrWidth, 1)},
		{head(3, 64), 0, fault(api.ErrWidth, 1)},
		{head(8, math.MaxInt, 8), 0, fault(api.ErrWidth, 1)},
		{head(8, 8, math.MinInt), 0, fault(api.ErrWidth, 2)},
		{head(48, 48, 48, 48, 48, 48, 48, 0), 0, fault(api.ErrWidth, 7)},
		{head(4), 0, fault(api.ErrWidth, -1)},
		{head(1), 0, fault(api.ErrWidth, -1)},
		{head(8, 8, 7), 0, fault(api.ErrWidth, -1)},
		{head(8, 9), 0, fault(api.ErrWidth, -1)},
		{head(48, 48, 48, 48, 48, 17), 0, fault(api.ErrWidth, -1)},
		{head(48, 48, 48, 48, 48, 24), 0, fault(api.ErrWidth, -1)},
		{repeat(8, 33), 0, fault(api.ErrWidth, -1)},
		{repeat(8, 48), 0, fault(api.ErrWidth, -1)},
	} {
		got, f := Size(c.h)
		if got != c.want || f != c.f {
			t.Errorf("Size(%v): %d %v, want %d %v", c.h.W, got, f, c.want, c.f)
		}
	}
}

func TestSizeOfOneField(t *testing.T) {
	for w := -100; w <= 100; w++ {
		want, wantFault := wantSize([]int{w})
		if got, f := Size(head(w)); got != want || f != wantFault {
			t.Errorf("Size(%d): %d %v, want %d %v", w, got, f, want, wantFault)
		}
	}
}

func TestSizeOfNoise(t *testing.T) {
	r := rand.New(rand.NewSource(1))
	for range 50000 {
		w := make([]int, r.Intn(11))
		for i := range w {
			w[i] = 1 + r.Intn(48)
			if r.Intn(10) == 0 {
				w[i] = r.Intn(140) - 70
			}
		}
		want, wantFault := wantSize(w)
		if got, f := Size(api.Header{W: w}); got != want || f != wantFault {
			t.Fatalf("Size(%v): %d %v, want %d %v", w, got, f, want, wantFault)
		}
	}
}

func TestReadExamples(t *testing.T) {
	h := head(4, 12, 16)
	b := []byte{0x10, 0x02, 0x00, 0x03}
	for _, c := range []struct {
		h    api.Header
		b    []byte
		at   int
		want []uint64
		f    api.Fault
	}{
		{h, b, 0, []uint64{1, 2, 3}, fault(0, 0)},
		{h, append([]byte{9}, b...), 1, []uint64{1, 2, 3}, fault(0, 0)},
		{h, append(slices.Clone(b), 9), 0, []uint64{1, 2, 3}, fault(0, 0)},
		{h, append(slices.Clone(b), 9), 1, []uint64{0, 0x200, 0x309}, fault(0, 0)},
		{head(8), []byte{1, 2, 3}, 2, []uint64{3}, fault(0, 0)},
		{head(48), []byte{0xFF, 0xFF, 0xFF, 0xFF, 0xFF, 0xFF}, 0, []uint64{1<<48 - 1}, fault(0, 0)},
		{repeat(8, 1), []byte{0xA5}, 0, []uint64{1, 0, 1, 0, 0, 1, 0, 1}, fault(0, 0)},
		{h, b, 1, nil, fault(api.ErrShort, -1)},
		{h, b, 4, nil, fault(api.ErrShort, -1)},
		{h, b, 5, nil, fault(api.ErrShort, -1)},
		{h, b, -1, nil, fault(api.ErrShort, -1)},
		{h, b, -4, nil, fault(api.ErrShort, -1)},
		{h, b[:3], 0, nil, fault(api.ErrShort, -1)},
		{h, nil, 0, nil, fault(api.ErrShort, -1)},
		{head(8), nil, 0, nil, fault(api.ErrShort, -1)},
		{head(8), []byte{1}, 1, nil, fault(api.ErrShort, -1)},
		{h, b, math.MaxInt, nil, fault(api.ErrShort, -1)},
		{h, b, math.MaxInt - 3, nil, fault(api.ErrShort, -1)},
		{h, b, math.MinInt, nil, fault(api.ErrShort, -1)},
		{h, b, 1 << 61, nil, fault(api.ErrShort, -1)},
		{h, b, 1 << 60, nil, fault(api.ErrShort, -1)},
		{api.Header{}, b, 0, nil, fault(api.ErrMany, -1)},
		{api.Header{}, nil, -1, nil, fault(api.ErrMany, -1)},
		{repeat(9, 8), nil, 9, nil, fault(api.ErrMany, -1)},
		{head(8, 0), nil, 9, nil, fault(api.ErrWidth, 1)},
		{head(8, 49), b, 0, nil, fault(api.ErrWidth, 1)},
		{head(4), b, 0, nil, fault(api.ErrWidth, -1)},
		{head(4), nil, -1, nil, fault(api.ErrWidth, -1)},
	} {
		got, f := Read(c.h, c.b, c.at)
		if !slices.Equal(got, c.want) || f != c.f {
			t.Errorf("Read(%v, %x, %d): %v %v, want %v %v", c.h.W, c.b, c.at, got, f, c.want, c.f)
		}
		if f.Code != 0 && len(got) != 0 {
			t.Errorf("Read(%v, %x, %d): %v beside a fault", c.h.W, c.b, c.at, got)
		}
	}
}

func TestWriteExamples(t *testing.T) {
	h := head(4, 12, 16)
	for _, c := range []struct {
		h    api.Header
		v    []uint64
		want []byte
		f    api.Fault
	}{
		{h, []uint64{1, 2, 3}, []byte{0x10, 0x02, 0x00, 0x03}, fault(0, 0)},
		{h, []uint64{0, 0, 0}, []byte{0, 0, 0, 0}, fault(0, 0)},
		{h, []uint64{15, 0xFFF, 0xFFFF}, []byte{0xFF, 0xFF, 0xFF, 0xFF}, fault(0, 0)},
		{head(48), []uint64{1<<48 - 1}, []byte{0xFF, 0xFF, 0xFF, 0xFF, 0xFF, 0xFF}, fault(0, 0)},
		{repeat(8, 1), []uint64{1, 0, 1, 0, 0, 1, 0, 1}, []byte{0xA5}, fault(0, 0)},
		{h, []uint64{16, 0, 0}, nil, fault(api.ErrWidth, 0)},
		{h, []uint64{15, 0x1000, 0x10000}, nil, fault(api.ErrWidth, 1)},
		{h, []uint64{15, 0xFFF, 0x10000}, nil, fault(api.ErrWidth, 2)},
		{h, []uint64{0, 0, math.MaxUint64}, nil, fault(api.ErrWidth, 2)},
		{h, []uint64{1 << 63, 0, 1 << 63}, nil, fault(api.ErrWidth, 0)},
		{head(48), []uint64{1 << 48}, nil, fault(api.ErrWidth, 0)},
		{repeat(8, 1), []uint64{0, 0, 0, 0, 0, 0, 0, 2}, nil, fault(api.ErrWidth, 7)},
		{h, nil, nil, fault(api.ErrMany, -1)},
		{h, []uint64{1, 2}, nil, fault(api.ErrMany, -1)},
		{h, []uint64{1, 2, 3, 4}, nil, fault(api.ErrMany, -1)},
		{h, []uint64{16, 2}, nil, fault(api.ErrMany, -1)},
		{h, []uint64{16, 2, 3, 4}, nil, fault(api.ErrMany, -1)},
		{api.Header{}, nil, nil, fault(api.ErrMany, -1)},
		{repeat(9, 8), make([]uint64, 9), nil, fault(api.ErrMany, -1)},
		{head(8, 0), []uint64{256}, nil, fault(api.ErrWidth, 1)},
		{head(8, 49, 7), []uint64{256, 0, 0}, nil, fault(api.ErrWidth, 1)},
		{head(4), []uint64{16}, nil, fault(api.ErrWidth, -1)},
		{head(4), nil, nil, fault(api.ErrWidth, -1)},
		{repeat(8, 48), make([]uint64, 8), nil, fault(api.ErrWidth, -1)},
	} {
		got, f := Write(c.h, c.v)
		if !slices.Equal(got, c.want) || f != c.f {
			t.Errorf("Write(%v, %v): %x %v, want %x %v", c.h.W, c.v, got, f, c.want, c.f)
		}
	}
}

func TestSumExamples(t *testing.T) {
	h := head(4, 12, 16)
	for _, c := range []struct {
		h    api.Header
		v    []uint64
		skip int
		want int
		f    api.Fault
	}{
		{h, []uint64{1, 2, 3}, -1, 0xEFFA, fault(0, 0)},
		{h, []uint64{1, 2, 3}, 2, 0xEFFD, fault(0, 0)},
		{h, []uint64{1, 2, 3}, 1, 0xEFFC, fault(0, 0)},
		{h, []uint64{1, 2, 3}, 0, 0xFFFA, fault(0, 0)},
		{h, []uint64{0, 0, 0}, -1, 0xFFFF, fault(0, 0)},
		{h, []uint64{15, 0xFFF, 0xFFFF}, -1, 0, fault(0, 0)},
		{head(8), []uint64{0x12}, -1, 0xEDFF, fault(0, 0)},
		{head(8), []uint64{0x12}, 0, 0xFFFF, fault(0, 0)},
		// The field that is skipped is 0, whatever number was handed in for it.
		{h, []uint64{16, 2, 3}, 0, 0xFFFA, fault(0, 0)},
		{h, []uint64{1, 2, math.MaxUint64}, 2, 0xEFFD, fault(0, 0)},
		{h, []uint64{16, 2, 3}, 1, 0, fault(api.ErrWidth, 0)},
		{h, []uint64{16, 2, 3}, -1, 0, fault(api.ErrWidth, 0)},
		{h, []uint64{16, 2, 0x10000}, 0, 0, fault(api.ErrWidth, 2)},
		{h, []uint64{1, 2, 3}, 3, 0, fault(api.ErrRange, -1)},
		{h, []uint64{1, 2, 3, 4}, 3, 0, fault(api.ErrRange, -1)},
		{h, []uint64{1, 2, 3}, -2, 0, fault(api.ErrRange, -1)},
		{h, []uint64{1, 2, 3}, math.MaxInt, 0, fault(api.ErrRange, -1)},
		{h, []uint64{1, 2, 3}, math.MinInt, 0, fault(api.ErrRange, -1)},
		{h, nil, 3, 0, fault(api.ErrRange, -1)},
		{h, nil, 0, 0, fault(api.ErrMany, -1)},
		{h, []uint64{1, 2}, 2, 0, fault(api.ErrMany, -1)},
		{h, []uint64{1, 2}, -1, 0, fault(api.ErrMany, -1)},
		{h, []uint64{16, 2, 3, 4}, 1, 0, fault(api.ErrMany, -1)},
		// What is wrong with skip is told ahead of what is wrong with the header.
		{api.Header{}, nil, 0, 0, fault(api.ErrRange, -1)},
		{api.Header{}, nil, -2, 0, fault(api.ErrRange, -1)},
		{api.Header{}, nil, -1, 0, fault(api.ErrMany, -1)},
		{head(4), nil, 1, 0, fault(api.ErrRange, -1)},
		{head(4), nil, 0, 0, fault(api.ErrWidth, -1)},
		{head(8, 0), []uint64{1, 0}, 2, 0, fault(api.ErrRange, -1)},
		{head(8, 0), []uint64{1, 0}, 1, 0, fault(api.ErrWidth, 1)},
		{repeat(9, 8), make([]uint64, 9), 9, 0, fault(api.ErrRange, -1)},
		{repeat(9, 8), make([]uint64, 9), 8, 0, fault(api.ErrMany, -1)},
	} {
		got, f := Sum(c.h, c.v, c.skip)
		if got != c.want || f != c.f {
			t.Errorf("Sum(%v, %v, %d): %#x %v, want %#x %v", c.h.W, c.v, c.skip, got, f, c.want, c.f)
		}
	}
}

// There and back, for right headers of all shapes, from any byte on.
func TestThereAndBack(t *testing.T) {
	r := rand.New(rand.NewSource(2))
	for range 5000 {
		w := someWidths(r)
		h, v := api.Header{W: w}, someFields(r, w)
		want := bytesByNumber(w, v)
		b, f := Write(h, v)
		if f.Code != 0 || !slices.Equal(b, want) {
			t.Fatalf("Write(%v, %v): %x %v, want %x", w, v, b, f, want)
		}
		if n, _ := Size(h); n != len(b) {
			t.Fatalf("Size(%v): %d, but %d are written", w, n, len(b))
		}
		at := r.Intn(5)
		wide := slices.Concat(make([]byte, at), b, make([]byte, r.Intn(3)))
		back, f := Read(h, wide, at)
		if f.Code != 0 || !slices.Equal(back, v) {
			t.Fatalf("Read(%v, %x, %d): %v %v, want %v", w, wide, at, back, f, v)
		}
		if l, f := Read(h, wide[:at+len(b)-1], at); f != fault(api.ErrShort, -1) || len(l) != 0 {
			t.Fatalf("Read(%v) of a byte too few: %v %v", w, l, f)
		}
	}
}

// Bytes that are read and written again are the same.
func TestBackAndThere(t *testing.T) {
	r := rand.New(rand.NewSource(3))
	for range 5000 {
		h := api.Header{W: someWidths(r)}
		size, _ := wantSize(h.W)
		b := make([]byte, size)
		for i := range b {
			b[i] = byte(r.Intn(256))
		}
		v, f := Read(h, b, 0)
		if f.Code != 0 {
			t.Fatalf("Read(%v, %x): %v", h.W, b, f)
		}
		if again, f := Write(h, v); f.Code != 0 || !slices.Equal(again, b) {
			t.Fatalf("%v: %x turns to %x %v", h.W, b, again, f)
		}
	}
}

func TestSumOfNoise(t *testing.T) {
	r := rand.New(rand.NewSource(4))
	for range 3000 {
		w := someWidths(r)
		v := someFields(r, w)
		for skip := -1; skip < len(w); skip++ {
			less := slices.Clone(v)
			if skip >= 0 {
				less[skip] = 0
			}
			want := sumByNumber(bytesByNumber(w, less))
			if got, f := Sum(api.Header{W: w}, v, skip); got != want || f.Code != 0 {
				t.Fatalf("Sum(%v, %v, %d): %#x %v, want %#x", w, v, skip, got, f, want)
			}
		}
	}
}

// The first number that does not fit is told, wherever others stand.
func TestFirstThatIsTooWide(t *testing.T) {
	r := rand.New(rand.NewSource(5))
	for range 5000 {
		w := someWidths(r)
		v := someFields(r, w)
		first := r.Intn(len(w))
		v[first] = power(w[first]).Uint64() << r.Intn(16)
		for i := first + 1; i < len(w); i++ {
			if r.Intn(2) == 0 {
				v[i] = power(w[i]).Uint64()
			}
		}
		h, want := api.Header{W: w}, fault(api.ErrWidth, first)
		if b, f := Write(h, v); f != want || len(b) != 0 {
			t.Fatalf("Write(%v, %v): %x %v, want %v", w, v, b, f, want)
		}
		if n, f := Sum(h, v, -1); f != want || n != 0 {
			t.Fatalf("Sum(%v, %v, -1): %d %v, want %v", w, v, n, f, want)
		}
		for i := first; i < len(w); i++ {
			v[i] &= power(w[i]).Uint64() - 1
		}
		v[first] = math.MaxUint64
		if n, f := Sum(h, v, first); f.Code != 0 {
			t.Fatalf("Sum(%v, %v, %d): %d %v, but that one is 0", w, v, first, n, f)
		}
	}
}

func TestArgumentsStay(t *testing.T) {
	w, v, b := []int{4, 12, 16, 99}, []uint64{1, 2, 3, 99}, []byte{0x10, 0x02, 0x00, 0x03, 99}
	h := api.Header{W: w[:3]}
	Size(h)
	for skip := -1; skip < 3; skip++ {
		Sum(h, v[:3], skip)
	}
	out, _ := Write(h, v[:3])
	l, _ := Read(h, b[:4], 0)
	clear(out)
	clear(l)
	if !slices.Equal(w, []int{4, 12, 16, 99}) || !slices.Equal(v, []uint64{1, 2, 3, 99}) || !slices.Equal(b, []byte{0x10, 0x02, 0x00, 0x03, 99}) {
		t.Errorf("changed: %v, %v, %x", w, v, b)
	}
}

// What lies behind a list's length is not read.
func TestBehindTheLength(t *testing.T) {
	w, v, b := []int{8, 8, 8}, []uint64{1, 2, 3}, []byte{1, 2, 3}
	if n, f := Size(api.Header{W: w[:2]}); n != 2 || f.Code != 0 {
		t.Errorf("Size: %d %v", n, f)
	}
	if _, f := Size(api.Header{W: w[:0]}); f != fault(api.ErrMany, -1) {
		t.Errorf("Size of no fields: %v", f)
	}
	if l, f := Read(api.Header{W: w}, b[:2], 0); f != fault(api.ErrShort, -1) {
		t.Errorf("Read: %v %v", l, f)
	}
	if out, f := Write(api.Header{W: w}, v[:2]); f != fault(api.ErrMany, -1) {
		t.Errorf("Write: %x %v", out, f)
	}
	if n, f := Sum(api.Header{W: w[:2]}, v[:2], 2); f != fault(api.ErrRange, -1) {
		t.Errorf("Sum: %d %v", n, f)
	}
}

// Nil and empty lists are the same.
func TestNilAndEmpty(t *testing.T) {
	none, empty := api.Header{}, api.Header{W: []int{}}
	if _, f := Read(empty, []byte{}, 0); f != fault(api.ErrMany, -1) {
		t.Errorf("Read of no fields: %v", f)
	}
	if _, f := Read(head(8), []byte{}, 0); f != fault(api.ErrShort, -1) {
		t.Errorf("Read of no bytes: %v", f)
	}
	for _, h := range []api.Header{none, empty} {
		if _, f := Write(h, []uint64{}); f != fault(api.ErrMany, -1) {
			t.Errorf("Write of no fields: %v", f)
		}
		if _, f := Sum(h, []uint64{}, -1); f != fault(api.ErrMany, -1) {
			t.Errorf("Sum of no fields: %v", f)
		}
	}
}

// Whatever is handed in, there is an answer, and beside a fault it is nothing.
func TestNothingBesideAFault(t *testing.T) {
	r := rand.New(rand.NewSource(6))
	wild := []int{math.MinInt, -1, 0, 1, 7, 8, 9, 16, 48, 49, 64, 65, 1 << 32, math.MaxInt}
	for range 50000 {
		h := api.Header{W: make([]int, r.Intn(11))}
		for i := range h.W {
			h.W[i] = 8 * (1 + r.Intn(6))
			if r.Intn(8) == 0 {
				h.W[i] = wild[r.Intn(len(wild))]
			}
		}
		v := make([]uint64, max(0, len(h.W)+r.Intn(5)/2-1))
		for i := range v {
			v[i] = r.Uint64() >> r.Intn(64)
		}
		b, at := make([]byte, r.Intn(40)), wild[r.Intn(len(wild))]
		if n, f := Size(h); f.Code != 0 && n != 0 {
			t.Fatalf("Size(%v): %d %v", h.W, n, f)
		}
		if l, f := Read(h, b, at); (f.Code == 0) != (len(l) > 0) {
			t.Fatalf("Read(%v, %x, %d): %v %v", h.W, b, at, l, f)
		}
		if out, f := Write(h, v); (f.Code == 0) != (len(out) > 0) {
			t.Fatalf("Write(%v, %v): %x %v", h.W, v, out, f)
		}
		if n, f := Sum(h, v, at); f.Code != 0 && n != 0 {
			t.Fatalf("Sum(%v, %v, %d): %d %v", h.W, v, at, n, f)
		}
	}
}
