package sum

import (
	"math"
	"math/rand"
	"slices"
	"testing"
)

// The tests reckon with whole numbers and their remainder by 0xFFFF: they share no bit by bit work with the package.

// modWord tells the low 16 bits of a number of any sign.
func modWord(v int) int {
	return ((v % 65536) + 65536) % 65536
}

// fold tells what is left of a sum of words: 0 of zeros alone, else a word from 1 to 0xFFFF.
func fold(total int) int {
	if total == 0 {
		return 0
	}
	return (total-1)%65535 + 1
}

func wholeByNumbers(b []byte) int {
	total := 0
	for i, x := range b {
		if i%2 == 0 {
			total += 256 * int(x)
		} else {
			total += int(x)
		}
	}
	return fold(total)
}

func noise(r *rand.Rand, n int) []byte {
	b := make([]byte, n)
	for i := range b {
		b[i] = byte(r.Intn(256))
	}
	return b
}

// edges are words, and numbers that are no words, at and beside the bounds.
func edges() []int {
	return []int{
		0, 1, 2, 0xFF, 0x100, 0x7FFF, 0x8000, 0x8001, 0xFFFE, 0xFFFF,
		0x10000, 0x10001, 0x1FFFF, 0x20000, -1, -2, -0xFFFF, -0x10000, -0x10001,
		math.MaxInt, math.MaxInt - 1, math.MinInt, math.MinInt + 1, 1 << 62, 0x12345678,
	}
}

func TestAddExamples(t *testing.T) {
	for _, c := range []struct{ a, b, want int }{
		{0xFFFF, 1, 1}, {0, 0, 0}, {0, 0xFFFF, 0xFFFF}, {0xFFFF, 0, 0xFFFF}, {0xFFFF, 0xFFFF, 0xFFFF},
		{0xFFFE, 1, 0xFFFF}, {0xFFFE, 2, 1}, {0x8000, 0x8000, 1}, {0x7FFF, 0x8000, 0xFFFF}, {1, 2, 3},
		{-1, 0, 0xFFFF}, {0x10000, 0, 0}, {0x10000, 5, 5}, {0x1FFFF, 1, 1}, {-0x10000, 7, 7},
		{math.MaxInt, 1, 1}, {math.MinInt, 1, 1}, {math.MaxInt, math.MaxInt, 0xFFFF}, {math.MinInt, math.MinInt, 0},
	} {
		if got := Add(c.a, c.b); got != c.want {
			t.Errorf("Add(%#x, %#x): %#x, want %#x", c.a, c.b, got, c.want)
		}
	}
}

func TestAddEverywhere(t *testing.T) {
	r := rand.New(rand.NewSource(1))
	seconds := edges()
	for range 40 {
		seconds = append(seconds, int(r.Uint64()), r.Intn(65536))
	}
	for _, b := range seconds {
		for a := range 65536 {
			want := fold(a + modWord(b))
			if got := Add(a, b); got != want {
				t.Fatalf("Add(%#x, %#x): %#x, want %#x", a, b, got, want)
			}
			if got := Add(b, a); got != want {
				t.Fatalf("Add(%#x, %#x): %#x, want %#x", b, a, got, want)
			}
		}
	}
}

// Of numbers that are handed in as words the low 16 bits count alone.
func TestLowBitsAlone(t *testing.T) {
	l := edges()
	for _, a := range l {
		for _, b := range l {
			if got, want := Add(a, b), Add(modWord(a), modWord(b)); got != want {
				t.Errorf("Add(%#x, %#x): %#x, want %#x", a, b, got, want)
			}
			for _, c := range l {
				if got, want := Turn(a, b, c), Turn(modWord(a), modWord(b), modWord(c)); got != want {
					t.Errorf("Turn(%#x, %#x, %#x): %#x, want %#x", a, b, c, got, want)
				}
			}
		}
	}
}

// Add can be done in any order.
func TestAnyOrder(t *testing.T) {
	l := edges()
	for _, a := range l {
		for _, b := range l {
			if Add(a, b) != Add(b, a) {
				t.Errorf("Add(%#x, %#x) turns with its arguments", a, b)
			}
			for _, c := range l {
				if got, want := Add(Add(a, b), c), Add(a, Add(b, c)); got != want {
					t.Errorf("%#x, %#x, %#x: %#x and %#x", a, b, c, got, want)
				}
			}
		}
	}
	r := rand.New(rand.NewSource(2))
	for range 300 {
		words := make([]int, 1+r.Intn(30))
		for i := range words {
			words[i] = r.Intn(65536)
		}
		want := addAll(words)
		r.Shuffle(len(words), func(i, j int) { words[i], words[j] = words[j], words[i] })
		if got := addAll(words); got != want {
			t.Fatalf("%v: %#x, want %#x", words, got, want)
		}
	}
}

func addAll(words []int) int {
	total := 0
	for _, w := range words {
		total = Add(total, w)
	}
	return total
}

func TestWholeExamples(t *testing.T) {
	for _, c := range []struct {
		b    []byte
		want int
	}{
		{nil, 0}, {[]byte{}, 0}, {[]byte{0}, 0}, {[]byte{0, 0}, 0}, {[]byte{0, 0, 0}, 0},
		{[]byte{0x45, 0x00, 0x01}, 0x4600}, {[]byte{1}, 0x100}, {[]byte{0, 1}, 1}, {[]byte{1, 2}, 0x102},
		{[]byte{0xFF, 0xFF}, 0xFFFF}, {[]byte{0xFF, 0xFF, 0xFF, 0xFF}, 0xFFFF}, {[]byte{0xFF, 0xFF, 0, 1}, 1},
		{[]byte{0xFF, 0xFF, 1}, 0x100}, {[]byte{0xFF}, 0xFF00}, {[]byte{0xFF, 0, 0xFF}, 0xFE01}, {[]byte{0xFF, 0, 0, 0xFF}, 0xFFFF},
	} {
		if got := Whole(c.b); got != c.want {
			t.Errorf("Whole(%x): %#x, want %#x", c.b, got, c.want)
		}
		if got, want := Of(c.b), 0xFFFF-c.want; got != want {
			t.Errorf("Of(%x): %#x, want %#x", c.b, got, want)
		}
		if got, want := Right(c.b), c.want == 0xFFFF; got != want {
			t.Errorf("Right(%x): %v, want %v", c.b, got, want)
		}
	}
}

func TestWholeOfNoise(t *testing.T) {
	r := rand.New(rand.NewSource(3))
	for n := range 300 {
		b := noise(r, n)
		was := slices.Clone(b)
		want := wholeByNumbers(b)
		if got := Whole(b); got != want {
			t.Fatalf("Whole(%x): %#x, want %#x", b, got, want)
		}
		if got := Of(b); got != 0xFFFF-want {
			t.Fatalf("Of(%x): %#x, want %#x", b, got, 0xFFFF-want)
		}
		if got := Right(b); got != (want == 0xFFFF) {
			t.Fatalf("Right(%x): %v", b, got)
		}
		if !slices.Equal(b, was) {
			t.Fatal("an argument was changed")
		}
	}
}

// So many words that a total of them would leave 32 bits.
func TestWholeOfMany(t *testing.T) {
	b := make([]byte, 1<<20+1)
	for i := range b {
		b[i] = 0xFF
	}
	if got, want := Whole(b), wholeByNumbers(b); got != want {
		t.Errorf("Whole: %#x, want %#x", got, want)
	}
	if !Right(b[:1<<20]) {
		t.Error("ones alone are not right")
	}
}

func TestBehindTheLength(t *testing.T) {
	full := []byte{0x45, 0x00, 0x01, 0x77, 0x88}
	if got := Whole(full[:3]); got != 0x4600 {
		t.Errorf("Whole: %#x", got)
	}
	if got := Of(full[:0]); got != 0xFFFF {
		t.Errorf("Of of none: %#x", got)
	}
	ones := []byte{0xFF, 0xFF}
	if Right(ones[:1]) {
		t.Error("Right reads behind the length")
	}
	if !slices.Equal(full, []byte{0x45, 0x00, 0x01, 0x77, 0x88}) {
		t.Errorf("changed: %x", full)
	}
}

// Bytes with their sum put where two of them, on an even place, were 0, are right; with any other word but the sum's other zero, they are not.
func TestPutSumIsRight(t *testing.T) {
	r := rand.New(rand.NewSource(4))
	for round := range 2000 {
		b := noise(r, 2+r.Intn(40))
		if round%50 == 0 {
			clear(b)
		}
		at := 2 * r.Intn(len(b)/2)
		b[at], b[at+1] = 0, 0
		s := Of(b)
		b[at], b[at+1] = byte(s/256), byte(s%256)
		if !Right(b) {
			t.Fatalf("%x with its sum on %d is not right", b, at)
		}
		other := r.Intn(65536)
		if other%0xFFFF == s%0xFFFF {
			continue
		}
		b[at], b[at+1] = byte(other/256), byte(other%256)
		if Right(b) {
			t.Fatalf("%x is right with another word on %d", b, at)
		}
	}
}

func TestTurnExamples(t *testing.T) {
	for _, c := range []struct{ sum, from, to, want int }{
		{0, 0, 0, 0},
		{0xFFFF, 0, 0, 0},
		{0xFFFF, 0, 5, 0xFFFA},
		{0xFFFF, 0, 0xFFFF, 0},
		{0, 0xFFFF, 0, 0},
		{0xFFFF, 0xFFFF, 0, 0xFFFF},
		{0, 0xFFFF, 0xFFFF, 0},
		{0xFFFA, 5, 7, 0xFFF8},
		{0xFFFA, 5, 0, 0},
		{-1, 0, 5, 0xFFFA},
		{0x1FFFA, 0x10005, -0xFFF9, 0xFFF8},
		{math.MaxInt, math.MinInt, math.MaxInt, 0},
	} {
		if got := Turn(c.sum, c.from, c.to); got != c.want {
			t.Errorf("Turn(%#x, %#x, %#x): %#x, want %#x", c.sum, c.from, c.to, got, c.want)
		}
	}
}

func TestTurnByNumbers(t *testing.T) {
	r := rand.New(rand.NewSource(5))
	l := edges()
	pick := func() int {
		if r.Intn(2) == 0 {
			return l[r.Intn(len(l))]
		}
		return int(r.Uint64())
	}
	for range 200000 {
		sum, from, to := pick(), pick(), pick()
		want := 0xFFFF - fold(0xFFFF-modWord(sum)+0xFFFF-modWord(from)+modWord(to))
		if got := Turn(sum, from, to); got != want {
			t.Fatalf("Turn(%#x, %#x, %#x): %#x, want %#x", sum, from, to, got, want)
		}
	}
}

// Turn tells the sum of the turned bytes, if these are not all 0.
func TestTurnTellsTheSum(t *testing.T) {
	r := rand.New(rand.NewSource(6))
	words := []int{0, 1, 0x00FF, 0xFF00, 0xFFFE, 0xFFFF}
	for round := range 20000 {
		b := noise(r, 2+r.Intn(10))
		if round%3 == 0 {
			clear(b)
		}
		at := 2 * r.Intn(len(b)/2)
		if round%5 == 0 {
			w := words[r.Intn(len(words))]
			b[at], b[at+1] = byte(w/256), byte(w%256)
		}
		was := Of(b)
		from := 256*int(b[at]) + int(b[at+1])
		to := words[r.Intn(len(words))]
		if round%2 == 0 {
			to = r.Intn(65536)
		}
		b[at], b[at+1] = byte(to/256), byte(to%256)
		if wholeByNumbers(b) == 0 {
			continue
		}
		if got, want := Turn(was, from, to), Of(b); got != want {
			t.Fatalf("%x, %#x on %d was %#x: %#x, want %#x", b, to, at, from, got, want)
		}
	}
}

// A last byte alone is the upper half of its word, and turns as such.
func TestTurnOfLastByteAlone(t *testing.T) {
	b := []byte{1, 2, 3}
	if got, want := Turn(Of(b), 0x0300, 0x0900), Of([]byte{1, 2, 9}); got != want {
		t.Errorf("%#x, want %#x", got, want)
	}
}
