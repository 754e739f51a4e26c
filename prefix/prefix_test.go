package prefix

import (
	"cmp"
	"math"
	"math/rand"
	"runtime"
	"slices"
	"strconv"
	"strings"
	"testing"

	"shuntyard/api"
)

// The tests hold a table against a plain list of entries, whose keys are looked at as texts of 0s and 1s: it shares no tree, no mask and no shift with the package.

type list struct {
	width, most int
	entries     []api.Entry
}

// text tells the key's bits in the table's width, the highest first; false, if it needs more.
func (l *list) text(key uint64) (string, bool) {
	s := strconv.FormatUint(key, 2)
	if key == 0 {
		s = ""
	}
	if l.width < 1 || l.width > 64 || len(s) > l.width {
		return "", false
	}
	return strings.Repeat("0", l.width-len(s)) + s, true
}

func (l *list) fits(key uint64, n int) bool {
	s, ok := l.text(key)
	return ok && n >= 0 && n <= l.width && !strings.Contains(s[n:], "1")
}

func (l *list) place(key uint64, n int) int {
	return slices.IndexFunc(l.entries, func(e api.Entry) bool { return e.Keys[0] == key && e.Len == n })
}

func (l *list) add(key uint64, n int, h api.Hit) int {
	switch {
	case !l.fits(key, n):
		return api.ErrWidth
	case l.place(key, n) >= 0:
		return api.ErrTwice
	case len(l.entries) == l.most:
		return api.ErrFull
	}
	l.entries = append(l.entries, entry(key, n, h))
	return 0
}

func (l *list) change(key uint64, n int, h api.Hit) int {
	i := l.place(key, n)
	switch {
	case !l.fits(key, n):
		return api.ErrWidth
	case i < 0:
		return api.ErrNone
	}
	l.entries[i] = entry(key, n, h)
	return 0
}

func (l *list) drop(key uint64, n int) int {
	i := l.place(key, n)
	switch {
	case !l.fits(key, n):
		return api.ErrWidth
	case i < 0:
		return api.ErrNone
	}
	l.entries = slices.Delete(l.entries, i, i+1)
	return 0
}

func (l *list) find(key uint64) (api.Hit, int, bool) {
	s, fits := l.text(key)
	h, long, ok := api.Hit{}, 0, false
	for _, e := range l.entries {
		own, _ := l.text(e.Keys[0])
		if fits && strings.HasPrefix(s, own[:e.Len]) && (!ok || e.Len > long) {
			h, long, ok = api.Hit{Act: e.Act, Args: e.Args}, e.Len, true
		}
	}
	return h, long, ok
}

func (l *list) all() []api.Entry {
	out := slices.Clone(l.entries)
	slices.SortFunc(out, func(a, b api.Entry) int {
		return cmp.Or(cmp.Compare(a.Keys[0], b.Keys[0]), cmp.Compare(a.Len, b.Len))
	})
	return out
}

func entry(key uint64, n int, h api.Hit) api.Entry {
	return api.Entry{Keys: []uint64{key}, Len: n, Act: h.Act, Args: slices.Clone(h.Args)}
}

func hit(act int, args ...uint64) api.Hit { return api.Hit{Act: act, Args: args} }

func sameHit(a, b api.Hit) bool { return a.Act == b.Act && slices.Equal(a.Args, b.Args) }

func sameEntry(a, b api.Entry) bool {
	return slices.Equal(a.Keys, b.Keys) && slices.Equal(a.Masks, b.Masks) && a.Len == b.Len && a.Prio == b.Prio &&
		a.Act == b.Act && slices.Equal(a.Args, b.Args)
}

func wantAll(t *testing.T, x *Table, want ...api.Entry) {
	t.Helper()
	if got := x.All(); !slices.EqualFunc(got, want, sameEntry) {
		t.Fatalf("All: %v, want %v", got, want)
	}
	if got := x.Len(); got != len(want) {
		t.Fatalf("Len: %d, want %d", got, len(want))
	}
}

func wantCode(t *testing.T, what string, got, want int) {
	t.Helper()
	if got != want {
		t.Fatalf("%s: the code %d, want %d", what, got, want)
	}
}

func wantFind(t *testing.T, x *Table, key uint64, want api.Hit, long int) {
	t.Helper()
	if h, n, ok := x.Find(key); !ok || n != long || !sameHit(h, want) {
		t.Fatalf("Find(%#x): %v %d %v, want %v %d", key, h, n, ok, want, long)
	}
}

func wantNone(t *testing.T, x *Table, key uint64) {
	t.Helper()
	if h, n, ok := x.Find(key); ok || n != 0 || !sameHit(h, api.Hit{}) {
		t.Fatalf("Find(%#x): %v %d %v, want none", key, h, n, ok)
	}
}

func TestExamples(t *testing.T) {
	x := New(8, 2)
	wantCode(t, "the first", x.Add(0x80, 1, hit(1)), 0)
	wantCode(t, "the second", x.Add(0xC0, 2, hit(2)), 0)
	wantFind(t, x, 0xFF, hit(2), 2)
	wantFind(t, x, 0x81, hit(1), 1)
	wantNone(t, x, 0x01)
}

func TestEmpty(t *testing.T) {
	for width := 1; width <= 64; width++ {
		x := New(width, 5)
		wantAll(t, x)
		wantNone(t, x, 0)
		wantNone(t, x, 1)
		wantNone(t, x, math.MaxUint64)
		wantCode(t, "Change", x.Change(0, 0, hit(1)), api.ErrNone)
		wantCode(t, "Drop", x.Drop(0, width), api.ErrNone)
		wantAll(t, x)
	}
}

type beginning struct {
	key uint64
	n   int
}

// wrongOf8 tells what is no beginning of a key of 8 bits.
func wrongOf8() []beginning {
	return []beginning{
		{0, -1}, {0, 9}, {0, 64}, {0, 65}, {0, math.MinInt}, {0, math.MaxInt}, {0x80, -1}, {0x80, 9}, // n
		{0x100, 8}, {0x100, 0}, {0x180, 1}, {1 << 63, 8}, {1 << 63, 0}, {1 << 63, 1}, {math.MaxUint64, 8}, {math.MaxUint64, 64}, // more bits
		{0x80, 0}, {1, 0}, {0x40, 1}, {0xC0, 1}, {0x81, 1}, {0x20, 2}, {1, 7}, {0xFF, 7}, {3, 7}, // others than its first n
	}
}

// Of several codes the first is told that the document names, and nothing changes with one.
func TestAddCodes(t *testing.T) {
	x := New(8, 3)
	wantCode(t, "first", x.Add(0x80, 1, hit(7, 8, 9)), 0)
	wantCode(t, "twice", x.Add(0x80, 1, hit(3)), api.ErrTwice)
	wantCode(t, "twice, alike", x.Add(0x80, 1, hit(7, 8, 9)), api.ErrTwice)
	for _, b := range wrongOf8() {
		wantCode(t, "wrong", x.Add(b.key, b.n, hit(1)), api.ErrWidth)
	}
	wantAll(t, x, entry(0x80, 1, hit(7, 8, 9)))
	wantCode(t, "longer", x.Add(0x80, 2, hit(-4)), 0)
	wantCode(t, "all of its bits", x.Add(0xFF, 8, hit(5)), 0)
	wantCode(t, "full", x.Add(0, 0, hit(1)), api.ErrFull)
	wantCode(t, "full, on the way", x.Add(0xC0, 2, hit(1)), api.ErrFull)
	wantCode(t, "twice and full", x.Add(0x80, 2, hit(1)), api.ErrTwice)
	for _, b := range wrongOf8() {
		wantCode(t, "wrong and full", x.Add(b.key, b.n, hit(1)), api.ErrWidth)
	}
	wantAll(t, x, entry(0x80, 1, hit(7, 8, 9)), entry(0x80, 2, hit(-4)), entry(0xFF, 8, hit(5)))
}

func TestChangeCodes(t *testing.T) {
	x := New(8, 2)
	x.Add(0xC0, 2, hit(7, 8, 9))
	x.Add(0xC0, 4, hit(4))
	for _, b := range []beginning{{0, 0}, {0x80, 1}, {0xC0, 3}, {0xC0, 5}, {0xC0, 8}, {0x40, 2}, {0, 8}} {
		wantCode(t, "none", x.Change(b.key, b.n, hit(1)), api.ErrNone)
	}
	for _, b := range wrongOf8() {
		wantCode(t, "wrong", x.Change(b.key, b.n, hit(1)), api.ErrWidth)
	}
	wantAll(t, x, entry(0xC0, 2, hit(7, 8, 9)), entry(0xC0, 4, hit(4)))
	wantCode(t, "fewer arguments", x.Change(0xC0, 2, hit(5, 6)), 0)
	wantFind(t, x, 0xF0, hit(5, 6), 2)
	wantCode(t, "more arguments", x.Change(0xC0, 4, hit(0, 1, 2, 3, 4)), 0)
	wantFind(t, x, 0xCF, hit(0, 1, 2, 3, 4), 4)
	wantCode(t, "nothing to say", x.Change(0xC0, 4, api.Hit{}), 0)
	wantFind(t, x, 0xCF, api.Hit{}, 4)
	wantAll(t, x, entry(0xC0, 2, hit(5, 6)), entry(0xC0, 4, api.Hit{}))
	wantCode(t, "still there", x.Add(0xC0, 4, hit(1)), api.ErrTwice)
}

func TestDropCodes(t *testing.T) {
	x := New(8, 3)
	x.Add(0xC0, 2, hit(7, 8, 9))
	x.Add(0xC0, 4, hit(4))
	x.Add(0xC0, 6, hit(6))
	for _, b := range []beginning{{0, 0}, {0x80, 1}, {0xC0, 3}, {0xC0, 5}, {0xC0, 8}, {0x40, 2}, {0, 8}} {
		wantCode(t, "none", x.Drop(b.key, b.n), api.ErrNone)
	}
	for _, b := range wrongOf8() {
		wantCode(t, "wrong", x.Drop(b.key, b.n), api.ErrWidth)
	}
	wantAll(t, x, entry(0xC0, 2, hit(7, 8, 9)), entry(0xC0, 4, hit(4)), entry(0xC0, 6, hit(6)))
	wantCode(t, "there", x.Drop(0xC0, 4), 0)
	wantCode(t, "gone", x.Drop(0xC0, 4), api.ErrNone)
	wantCode(t, "change of the gone", x.Change(0xC0, 4, hit(1)), api.ErrNone)
	wantFind(t, x, 0xC7, hit(7, 8, 9), 2)
	wantFind(t, x, 0xC3, hit(6), 6)
	wantAll(t, x, entry(0xC0, 2, hit(7, 8, 9)), entry(0xC0, 6, hit(6)))
	wantCode(t, "room again", x.Add(0, 0, hit(1)), 0)
	wantCode(t, "full again", x.Add(0xC0, 4, hit(4)), api.ErrFull)
	wantCode(t, "the longest", x.Drop(0xC0, 6), 0)
	wantFind(t, x, 0xC3, hit(7, 8, 9), 2)
	wantCode(t, "the shortest", x.Drop(0, 0), 0)
	wantNone(t, x, 0)
	wantCode(t, "the last", x.Drop(0xC0, 2), 0)
	wantNone(t, x, 0xC0)
	wantAll(t, x)
}

// Of one key and all lengths each has an entry of its own, and goes without the others.
func TestEachLength(t *testing.T) {
	for _, width := range []int{1, 2, 7, 8, 31, 32, 33, 63, 64} {
		ones := uint64(math.MaxUint64) >> (64 - width)
		first := func(n int) uint64 { return ones >> (width - n) << (width - n) }
		x := New(width, width+1)
		var want []api.Entry
		for n := range width + 1 {
			wantCode(t, "Add", x.Add(first(n), n, hit(n)), 0)
			wantFind(t, x, ones, hit(n), n)
			want = append(want, entry(first(n), n, hit(n)))
		}
		wantAll(t, x, want...)
		for n := range width {
			wantFind(t, x, first(n), hit(n), n)
		}
		for n := width; n >= 0; n-- {
			wantFind(t, x, ones, hit(n), n)
			wantCode(t, "Drop", x.Drop(first(n), n), 0)
			wantAll(t, x, want[:n]...)
		}
		wantNone(t, x, ones)
	}
}

// The beginning of no bits is one that all keys have; it tells its length, 0, and true.
func TestNoBits(t *testing.T) {
	for _, width := range []int{1, 8, 63, 64} {
		x := New(width, 1)
		wantCode(t, "Add", x.Add(0, 0, hit(3, 4)), 0)
		wantCode(t, "twice", x.Add(0, 0, hit(3, 4)), api.ErrTwice)
		wantFind(t, x, 0, hit(3, 4), 0)
		wantFind(t, x, uint64(math.MaxUint64)>>(64-width), hit(3, 4), 0)
		if width < 64 {
			wantNone(t, x, 1<<width)
			wantNone(t, x, math.MaxUint64)
		}
		wantCode(t, "another key", x.Add(1<<(width-1), 0, hit(1)), api.ErrWidth)
		wantAll(t, x, entry(0, 0, hit(3, 4)))
	}
}

// Each bit of a key is looked at, the lowest, too.
func TestEachBitCounts(t *testing.T) {
	for _, width := range []int{1, 8, 33, 64} {
		x := New(width, 100)
		wantCode(t, "zeros", x.Add(0, width, hit(-1)), 0)
		for i := range width {
			wantNone(t, x, 1<<i)
			wantCode(t, "one bit", x.Add(1<<i, width, hit(i)), 0)
		}
		for i := range width {
			wantFind(t, x, 1<<i, hit(i), width)
		}
		wantFind(t, x, 0, hit(-1), width)
		if x.Len() != width+1 {
			t.Fatalf("Len: %d", x.Len())
		}
	}
}

func TestNoSuchWidth(t *testing.T) {
	for _, width := range []int{0, -1, -8, 65, 66, 128, math.MinInt, math.MinInt + 1, math.MaxInt} {
		x := New(width, 3)
		for _, b := range []beginning{{0, 0}, {0, 1}, {0, width}, {1, 1}, {1 << 63, 1}, {1 << 63, 64}, {math.MaxUint64, 64}, {0, -1}, {0, math.MaxInt}} {
			wantCode(t, "Add", x.Add(b.key, b.n, hit(1)), api.ErrWidth)
			wantCode(t, "Change", x.Change(b.key, b.n, hit(1)), api.ErrWidth)
			wantCode(t, "Drop", x.Drop(b.key, b.n), api.ErrWidth)
			wantNone(t, x, b.key)
		}
		wantAll(t, x)
	}
}

func TestNoEntries(t *testing.T) {
	for _, most := range []int{0, -1, -100, math.MinInt} {
		x := New(8, most)
		wantCode(t, "full", x.Add(0x80, 1, hit(1)), api.ErrFull)
		wantCode(t, "full, no bits", x.Add(0, 0, hit(1)), api.ErrFull)
		wantCode(t, "wrong", x.Add(0x80, 0, hit(1)), api.ErrWidth)
		wantCode(t, "change", x.Change(0x80, 1, hit(1)), api.ErrNone)
		wantCode(t, "drop", x.Drop(0x80, 1), api.ErrNone)
		wantNone(t, x, 0x80)
		wantAll(t, x)
	}
}

// An entry may say whatever: a Hit is not looked at.
func TestWhateverIsSaid(t *testing.T) {
	x := New(8, 9)
	said := []api.Hit{hit(0), hit(-1), hit(math.MinInt), hit(math.MaxInt, math.MaxUint64), hit(1, make([]uint64, 1000)...)}
	for i, h := range said {
		wantCode(t, "Add", x.Add(uint64(i), 8, h), 0)
	}
	for i, h := range said {
		wantFind(t, x, uint64(i), h, 8)
	}
}

// Numbers without a sign; of one key the shorter one first.
func TestAllRises(t *testing.T) {
	risen := []beginning{
		{0, 0}, {0, 1}, {0, 63}, {0, 64}, {1, 64}, {2, 63}, {2, 64}, {3, 64}, {0xFF, 64}, {0x100, 56}, {0x100, 57}, {0x100, 64}, {1 << 32, 32}, {1 << 32, 40},
		{1 << 62, 2}, {1 << 62, 3}, {math.MaxInt64, 64}, {1 << 63, 1}, {1 << 63, 2}, {1 << 63, 64}, {1<<63 + 1, 64}, {3 << 62, 2}, {math.MaxUint64 - 1, 63}, {math.MaxUint64 - 1, 64}, {math.MaxUint64, 64},
	}
	r := rand.New(rand.NewSource(1))
	for range 200 {
		x := New(64, len(risen))
		for _, i := range r.Perm(len(risen)) {
			wantCode(t, "Add", x.Add(risen[i].key, risen[i].n, hit(i, uint64(i))), 0)
		}
		var want []api.Entry
		for i, b := range risen {
			want = append(want, entry(b.key, b.n, hit(i, uint64(i))))
		}
		wantAll(t, x, want...)
	}
}

// Many entries: each call goes along one key, not through all of them.
func TestManyEntries(t *testing.T) {
	const many = 50000
	x := New(64, math.MaxInt)
	key := func(i int) uint64 { return uint64(i) << 46 }
	for i := range many {
		wantCode(t, "Add", x.Add(key(many-i), 18, hit(many-i)), 0)
	}
	all := x.All()
	if len(all) != many || x.Len() != many {
		t.Fatalf("%d entries, Len %d", len(all), x.Len())
	}
	for i, e := range all {
		if !sameEntry(e, entry(key(i+1), 18, hit(i+1))) {
			t.Fatalf("the entry %d: %v", i, e)
		}
	}
	for i := range many {
		wantFind(t, x, key(i+1)+uint64(i), hit(i+1), 18)
		wantCode(t, "Drop", x.Drop(key(i+1), 18), 0)
		wantNone(t, x, key(i+1))
	}
	wantAll(t, x)
}

// What was dropped leaves nothing behind, not even the way to it.
func TestNothingStaysBehind(t *testing.T) {
	x := New(64, 2)
	x.Add(0, 0, hit(1))
	used := func() uint64 {
		var m runtime.MemStats
		runtime.GC()
		runtime.ReadMemStats(&m)
		return m.HeapAlloc
	}
	before := used()
	r := rand.New(rand.NewSource(2))
	for range 100000 {
		k := r.Uint64()
		wantCode(t, "Add", x.Add(k, 64, hit(2)), 0)
		wantCode(t, "Drop", x.Drop(k, 64), 0)
	}
	if after := used(); after > before+10<<20 {
		t.Errorf("%d bytes before, %d after", before, after)
	}
	wantAll(t, x, entry(0, 0, hit(1)))
}

func TestArgumentsAreNotKept(t *testing.T) {
	x, h := New(8, 3), hit(5, 6, 7)
	x.Add(0x80, 1, h)
	h.Args[0] = 100
	wantAll(t, x, entry(0x80, 1, hit(5, 6, 7)))
	wantCode(t, "Change", x.Change(0x80, 1, h), 0)
	h.Args[1] = 101
	wantAll(t, x, entry(0x80, 1, hit(5, 100, 7)))
}

// What lies behind a list's length is neither read nor written.
func TestArgumentsStay(t *testing.T) {
	args := []uint64{5, 6, 99}
	x, h := New(8, 3), api.Hit{Act: 4, Args: args[:2]}
	x.Add(0x80, 1, h)
	wantFind(t, x, 0x80, hit(4, 5, 6), 1)
	x.Change(0x80, 1, h)
	wantFind(t, x, 0x80, hit(4, 5, 6), 1)
	x.Drop(0x80, 1)
	if !slices.Equal(args, []uint64{5, 6, 99}) {
		t.Errorf("changed: %v", args)
	}
}

// What is done to an answer changes neither the table nor another list of the answer.
func TestAnswersAreNewMemory(t *testing.T) {
	x := New(8, 3)
	x.Add(0x80, 1, hit(4, 5, 6))
	x.Add(0xC0, 2, hit(7, 8))
	h, _, _ := x.Find(0x80)
	again, _, _ := x.Find(0x80)
	h.Args[0] = 100
	_ = append(h.Args[:1], 100)
	if !slices.Equal(again.Args, []uint64{5, 6}) {
		t.Errorf("two answers of Find share memory: %v", again)
	}
	all, other := x.All(), x.All()
	for i := range all {
		_ = append(all[i].Keys, 100, 100)
		_ = append(all[i].Args, 100, 100)
	}
	if !slices.EqualFunc(all, other, sameEntry) {
		t.Errorf("lists of one answer share memory: %v", all)
	}
	for i := range all {
		all[i].Keys[0], all[i].Args[0] = 100, 100
	}
	all[0] = api.Entry{}
	want := []api.Entry{entry(0x80, 1, hit(4, 5, 6)), entry(0xC0, 2, hit(7, 8))}
	if !slices.EqualFunc(other, want, sameEntry) {
		t.Errorf("two answers of All share memory: %v", other)
	}
	wantAll(t, x, want...)
}

func TestTablesAreApart(t *testing.T) {
	x, y := New(8, 1), New(8, 1)
	x.Add(0x80, 1, hit(1))
	wantAll(t, y)
	wantCode(t, "Add", y.Add(0x80, 1, hit(2)), 0)
	x.Drop(0x80, 1)
	wantFind(t, y, 0x80, hit(2), 1)
}

// someBeginning tells one that others often have in common, and now and then a wrong one.
func someBeginning(r *rand.Rand, width int) beginning {
	n := r.Intn(width + 1)
	if r.Intn(2) == 0 {
		n = min(n, 3)
	}
	key := someKey(r, width) >> (width - n) << (width - n)
	switch r.Intn(12) {
	case 0:
		n += r.Intn(5) - 2
	case 1:
		key ^= 1 << r.Intn(64)
	}
	return beginning{key, n}
}

func someKey(r *rand.Rand, width int) uint64 {
	ones := uint64(math.MaxUint64) >> (64 - width)
	pool := []uint64{0, 1, ones, ones - 1, ones / 3, ones / 5 * 4, r.Uint64() & ones, r.Uint64()}
	return pool[r.Intn(len(pool))]
}

func someHit(r *rand.Rand) api.Hit {
	h := api.Hit{Act: r.Intn(9) - 1, Args: make([]uint64, r.Intn(4))}
	for i := range h.Args {
		h.Args[i] = r.Uint64() >> r.Intn(64)
	}
	return h
}

// After each step, whatever it was, the table and the list tell the same.
func TestAgainstTheList(t *testing.T) {
	r := rand.New(rand.NewSource(3))
	for round := range 400 {
		width, most := 1+round%64, r.Intn(12)
		if round%3 == 0 {
			width = 1 + r.Intn(4)
		}
		x, l := New(width, most), &list{width: width, most: most}
		for range 150 {
			b, h := someBeginning(r, width), someHit(r)
			switch r.Intn(5) {
			case 0, 1, 2:
				wantCode(t, "Add", x.Add(b.key, b.n, h), l.add(b.key, b.n, h))
			case 3:
				wantCode(t, "Change", x.Change(b.key, b.n, h), l.change(b.key, b.n, h))
			case 4:
				wantCode(t, "Drop", x.Drop(b.key, b.n), l.drop(b.key, b.n))
			}
			wantAll(t, x, l.all()...)
			key := someKey(r, width)
			if want, long, ok := l.find(key); ok {
				wantFind(t, x, key, want, long)
			} else {
				wantNone(t, x, key)
			}
		}
	}
}

// All beginnings and all keys of small widths: what fits, what is twice, and what is found, with each set of entries for width 2.
func TestAllOfSmallWidths(t *testing.T) {
	places := []beginning{{0, 0}, {0, 1}, {2, 1}, {0, 2}, {1, 2}, {2, 2}, {3, 2}}
	for set := range 1 << len(places) {
		x, l := New(2, 7), &list{width: 2, most: 7}
		for i, b := range places {
			if set>>i&1 == 1 {
				wantCode(t, "Add", x.Add(b.key, b.n, hit(i)), l.add(b.key, b.n, hit(i)))
			}
		}
		for key := range uint64(6) {
			h, n, ok := x.Find(key)
			want, long, there := l.find(key)
			if n != long || ok != there || !sameHit(h, want) {
				t.Fatalf("the set %b: Find(%d): %v %d %v, want %v %d %v", set, key, h, n, ok, want, long, there)
			}
			for n := -1; n <= 3; n++ {
				h := hit(90, key)
				wantCode(t, "Change", x.Change(key, n, h), l.change(key, n, h))
			}
		}
		wantAll(t, x, l.all()...)
	}
}
