package ternary

import (
	"math"
	"math/rand"
	"slices"
	"strings"
	"testing"

	"shuntyard/api"
)

// The tests hold a table against a plain list of entries, whose keys and masks are looked at as texts of 0, 1 and * (a bit that does not count): it shares no order, no search and no reckoning with bits with the package.

type ruled struct {
	e    api.Entry
	text string
}

type rules struct {
	keys, most int
	list       []ruled
}

// digits tells the 64 bits of each number, the highest first.
func digits(l []uint64) string {
	var b strings.Builder
	for _, v := range l {
		for i := 63; i >= 0; i-- {
			b.WriteByte("01"[v>>i&1])
		}
	}
	return b.String()
}

// textOf tells an entry's Keys with a * for each bit that is not of its Masks; false, if it can't be an entry.
func (r *rules) textOf(e api.Entry) (string, bool) {
	if len(e.Keys) != r.keys || len(e.Masks) != r.keys || e.Prio < 0 || e.Prio > 1000 {
		return "", false
	}
	text, masks := []byte(digits(e.Keys)), digits(e.Masks)
	for i := range text {
		if masks[i] == '0' {
			if text[i] == '1' {
				return "", false
			}
			text[i] = '*'
		}
	}
	return string(text), true
}

// alike asks whether two texts have the same at each place where neither has a *.
func alike(a, b string) bool {
	for i := range len(a) {
		if a[i] != '*' && b[i] != '*' && a[i] != b[i] {
			return false
		}
	}
	return true
}

func (r *rules) place(prio int, text string) int {
	return slices.IndexFunc(r.list, func(x ruled) bool { return x.e.Prio == prio && x.text == text })
}

func (r *rules) add(e api.Entry) int {
	text, ok := r.textOf(e)
	if !ok {
		return api.ErrWidth
	}
	if r.place(e.Prio, text) >= 0 {
		return api.ErrTwice
	}
	for _, x := range r.list {
		if x.e.Prio == e.Prio && alike(x.text, text) {
			return api.ErrClash
		}
	}
	if len(r.list) >= r.most {
		return api.ErrFull
	}
	r.list = append(r.list, ruled{kept(e), text})
	return 0
}

func (r *rules) change(e api.Entry) int {
	text, ok := r.textOf(e)
	at := r.place(e.Prio, text)
	switch {
	case !ok:
		return api.ErrWidth
	case at < 0:
		return api.ErrNone
	}
	r.list[at].e = kept(e)
	return 0
}

func (r *rules) drop(e api.Entry) int {
	text, ok := r.textOf(e)
	at := r.place(e.Prio, text)
	switch {
	case !ok:
		return api.ErrWidth
	case at < 0:
		return api.ErrNone
	}
	r.list = slices.Delete(r.list, at, at+1)
	return 0
}

func (r *rules) find(k []uint64) (api.Hit, bool) {
	h, prio, ok := api.Hit{}, 0, false
	for _, x := range r.list {
		if len(k) == r.keys && alike(x.text, digits(k)) && (!ok || x.e.Prio < prio) {
			h, prio, ok = api.Hit{Act: x.e.Act, Args: x.e.Args}, x.e.Prio, true
		}
	}
	return h, ok
}

// all takes the lowest out, again and again; digits of as many numbers rise as the numbers do.
func (r *rules) all() []api.Entry {
	rest := slices.Clone(r.list)
	var out []api.Entry
	for len(rest) > 0 {
		low := 0
		for i := range rest {
			if isBelow(rest[i].e, rest[low].e) {
				low = i
			}
		}
		out = append(out, rest[low].e)
		rest = slices.Delete(rest, low, low+1)
	}
	return out
}

func isBelow(a, b api.Entry) bool {
	if a.Prio != b.Prio {
		return a.Prio < b.Prio
	}
	return digits(a.Keys)+digits(a.Masks) < digits(b.Keys)+digits(b.Masks)
}

func kept(e api.Entry) api.Entry {
	e.Len, e.Keys, e.Masks, e.Args = 0, slices.Clone(e.Keys), slices.Clone(e.Masks), slices.Clone(e.Args)
	return e
}

// entry tells one of a single number.
func entry(key, mask uint64, prio, act int, args ...uint64) api.Entry {
	return api.Entry{Keys: []uint64{key}, Masks: []uint64{mask}, Prio: prio, Act: act, Args: args}
}

// pairs tells one of as many numbers as there are pairs of a key and its mask.
func pairs(prio, act int, both ...[2]uint64) api.Entry {
	e := api.Entry{Prio: prio, Act: act}
	for _, b := range both {
		e.Keys, e.Masks = append(e.Keys, b[0]), append(e.Masks, b[1])
	}
	return e
}

func hit(act int, args ...uint64) api.Hit { return api.Hit{Act: act, Args: args} }

func sameHit(a, b api.Hit) bool { return a.Act == b.Act && slices.Equal(a.Args, b.Args) }

func sameEntry(a, b api.Entry) bool {
	return slices.Equal(a.Keys, b.Keys) && slices.Equal(a.Masks, b.Masks) && a.Len == b.Len && a.Prio == b.Prio &&
		a.Act == b.Act && slices.Equal(a.Args, b.Args)
}

func wantAll(t *testing.T, x *Table, want ...api.Entry) {
	t.Helper()
	if got := x.All(); !slices.EqualFunc(got, want, sameEntry) {
		t.Fatalf("All: %v, want %v", got, want)
	}
	if got := x.Len(); got != len(want) {
		t.Fatalf("Len: %d, want %d", got, len(want))
	}
}

func wantCode(t *testing.T, what string, got, want int) {
	t.Helper()
	if got != want {
		t.Fatalf("%s: the code %d, want %d", what, got, want)
	}
}

func wantFind(t *testing.T, x *Table, want api.Hit, k ...uint64) {
	t.Helper()
	if h, ok := x.Find(k); !ok || !sameHit(h, want) {
		t.Fatalf("Find(%#x): %v %v, want %v", k, h, ok, want)
	}
}

func wantNone(t *testing.T, x *Table, k ...uint64) {
	t.Helper()
	if h, ok := x.Find(k); ok || !sameHit(h, api.Hit{}) {
		t.Fatalf("Find(%#x): %v %v, want none", k, h, ok)
	}
}

func TestExamples(t *testing.T) {
	x := New(1, 2)
	wantCode(t, "the first", x.Add(entry(0x10, 0xF0, 2, 1)), 0)
	wantCode(t, "the second", x.Add(entry(0x12, 0xFF, 1, 2)), 0)
	wantFind(t, x, hit(2), 0x12)
	wantFind(t, x, hit(1), 0x13)
}

func TestEmpty(t *testing.T) {
	for keys := range 4 {
		x, none := New(keys, 5), pairs(0, 1, make([][2]uint64, keys)...)
		wantAll(t, x)
		wantNone(t, x, make([]uint64, keys)...)
		wantCode(t, "Change", x.Change(none), api.ErrNone)
		wantCode(t, "Drop", x.Drop(none), api.ErrNone)
		wantAll(t, x)
	}
}

// wrongOfOne tells what can't be an entry of a table for keys of one number.
func wrongOfOne() []api.Entry {
	return []api.Entry{
		{}, {Keys: []uint64{1}}, {Masks: []uint64{1}}, {Keys: []uint64{}, Masks: []uint64{}}, // not as many
		{Keys: []uint64{0, 0}, Masks: []uint64{0}}, {Keys: []uint64{0}, Masks: []uint64{0, 0}}, {Keys: []uint64{0, 0}, Masks: []uint64{0, 0}},
		{Keys: make([]uint64, 1000), Masks: make([]uint64, 1000)},
		entry(1, 0, 5, 0), entry(1, 2, 5, 0), entry(3, 1, 5, 0), entry(0x1F, 0xF0, 5, 0), entry(0x110, 0xF0, 5, 0), // bits that the mask has not
		entry(1<<63, math.MaxInt64, 5, 0), entry(math.MaxUint64, math.MaxUint64-1, 5, 0), entry(math.MaxUint64, 0, 5, 0),
		entry(0x10, 0xF0, -1, 0), entry(0x10, 0xF0, 1001, 0), entry(0, 0, -1000, 0), entry(0, 0, math.MinInt, 0), entry(0, 0, math.MaxInt, 0), // Prio
	}
}

// Of several codes the first is told that the document names, and nothing changes with one.
func TestAddCodes(t *testing.T) {
	x := New(1, 3)
	first := entry(0x10, 0xF0, 5, 7, 8, 9)
	wantCode(t, "first", x.Add(first), 0)
	wantCode(t, "twice", x.Add(entry(0x10, 0xF0, 5, 3)), api.ErrTwice)
	wantCode(t, "twice, alike", x.Add(first), api.ErrTwice)
	wantCode(t, "clash, a longer mask", x.Add(entry(0x11, 0xFF, 5, 3)), api.ErrClash)
	wantCode(t, "clash, a shorter mask", x.Add(entry(0, 0, 5, 3)), api.ErrClash)
	wantCode(t, "clash, another mask", x.Add(entry(3, 0xF, 5, 3)), api.ErrClash)
	wantCode(t, "clash, the same key", x.Add(entry(0x10, 0xF1, 5, 3)), api.ErrClash)
	for _, e := range wrongOfOne() {
		wantCode(t, "wrong", x.Add(e), api.ErrWidth)
	}
	wantAll(t, x, first)
	second, third := entry(0x10, 0xF0, 6, -4), entry(0x20, 0xF0, 5, 5)
	wantCode(t, "the same with another Prio", x.Add(second), 0)
	wantCode(t, "another of the same Prio", x.Add(third), 0)
	wantCode(t, "full", x.Add(entry(0x30, 0xF0, 5, 1)), api.ErrFull)
	wantCode(t, "full, with another Prio", x.Add(entry(0x10, 0xF0, 7, 1)), api.ErrFull)
	wantCode(t, "twice and full", x.Add(entry(0x20, 0xF0, 5, 1)), api.ErrTwice)
	wantCode(t, "clash and full", x.Add(entry(0x23, 0xFF, 5, 1)), api.ErrClash)
	for _, e := range wrongOfOne() {
		wantCode(t, "wrong and full", x.Add(e), api.ErrWidth)
	}
	wantAll(t, x, first, third, second)
}

func TestChangeCodes(t *testing.T) {
	x := New(1, 2)
	x.Add(entry(0x10, 0xF0, 5, 7, 8, 9))
	x.Add(entry(0x10, 0xFF, 6, 4))
	for _, e := range notThere() {
		wantCode(t, "none", x.Change(e), api.ErrNone)
	}
	for _, e := range wrongOfOne() {
		wantCode(t, "wrong", x.Change(e), api.ErrWidth)
	}
	wantAll(t, x, entry(0x10, 0xF0, 5, 7, 8, 9), entry(0x10, 0xFF, 6, 4))
	wantCode(t, "fewer arguments", x.Change(entry(0x10, 0xF0, 5, 5, 6)), 0)
	wantFind(t, x, hit(5, 6), 0x10)
	wantCode(t, "more arguments", x.Change(entry(0x10, 0xFF, 6, 0, 1, 2, 3)), 0)
	wantAll(t, x, entry(0x10, 0xF0, 5, 5, 6), entry(0x10, 0xFF, 6, 0, 1, 2, 3))
	wantCode(t, "nothing to say", x.Change(entry(0x10, 0xF0, 5, 0)), 0)
	wantFind(t, x, api.Hit{}, 0x1F)
	wantAll(t, x, entry(0x10, 0xF0, 5, 0), entry(0x10, 0xFF, 6, 0, 1, 2, 3))
	wantCode(t, "still there", x.Add(entry(0x10, 0xF0, 5, 1)), api.ErrTwice)
}

// notThere tells what is none of 0x10 by 0xF0 with 5, and 0x10 by 0xFF with 6, though most of it is of one of them.
func notThere() []api.Entry {
	return []api.Entry{
		entry(0x10, 0xF0, 4, 1), entry(0x10, 0xF0, 6, 1), entry(0x10, 0xFF, 5, 1), entry(0x10, 0xFF, 7, 1), entry(0x20, 0xF0, 5, 1),
		entry(0, 0xF0, 5, 1), entry(0x10, 0x10, 5, 1), entry(0x11, 0xFF, 6, 1), entry(0, 0, 5, 1), entry(0, 0, 0, 1), entry(0, 0, 1000, 1),
	}
}

func TestDropCodes(t *testing.T) {
	x := New(1, 2)
	first, second := entry(0x10, 0xF0, 5, 7, 8, 9), entry(0x10, 0xFF, 6, 4)
	x.Add(first)
	x.Add(second)
	for _, e := range notThere() {
		wantCode(t, "none", x.Drop(e), api.ErrNone)
	}
	for _, e := range wrongOfOne() {
		wantCode(t, "wrong", x.Drop(e), api.ErrWidth)
	}
	wantAll(t, x, first, second)
	wantCode(t, "there, whatever it is told to say", x.Drop(entry(0x10, 0xF0, 5, -1, 100)), 0)
	wantCode(t, "gone", x.Drop(first), api.ErrNone)
	wantCode(t, "change of the gone", x.Change(first), api.ErrNone)
	wantFind(t, x, hit(4), 0x10)
	wantNone(t, x, 0x11)
	wantAll(t, x, second)
	wantCode(t, "what clashed", x.Add(entry(0x11, 0xFF, 5, 1)), 0)
	wantCode(t, "it clashes now", x.Add(first), api.ErrClash)
	wantCode(t, "full again", x.Add(entry(0x22, 0xFF, 5, 1)), api.ErrFull)
	wantCode(t, "another", x.Drop(entry(0x11, 0xFF, 5, 0)), 0)
	wantCode(t, "the last", x.Drop(second), 0)
	wantNone(t, x, 0x10)
	wantAll(t, x)
	wantCode(t, "room again", x.Add(first), 0)
	wantAll(t, x, first)
}

// The edges of Prio, and that the lowest counts, whenever it was added.
func TestPrio(t *testing.T) {
	prios := []int{0, 1, 2, 499, 500, 999, 1000}
	r := rand.New(rand.NewSource(1))
	for range 50 {
		x := New(1, len(prios))
		low := math.MaxInt
		for _, i := range r.Perm(len(prios)) {
			wantCode(t, "Add", x.Add(entry(0, 0, prios[i], prios[i])), 0)
			low = min(low, prios[i])
			wantFind(t, x, hit(low), r.Uint64())
		}
		for _, p := range prios {
			wantFind(t, x, hit(p), r.Uint64())
			wantCode(t, "Drop", x.Drop(entry(0, 0, p, 0)), 0)
		}
		wantNone(t, x, 0)
	}
}

// The lowest Prio counts, not how much of the keys an entry looks at, and only where it fits.
func TestLowestThatFits(t *testing.T) {
	x := New(1, 9)
	wantCode(t, "all", x.Add(entry(0, 0, 1000, 1)), 0)
	wantCode(t, "one", x.Add(entry(0x12, math.MaxUint64, 900, 2)), 0)
	wantCode(t, "many", x.Add(entry(0x10, 0xF0, 0, 3)), 0)
	wantFind(t, x, hit(3), 0x12)
	wantFind(t, x, hit(3), math.MaxUint64&^0xE0)
	wantFind(t, x, hit(1), 0x22)
	wantCode(t, "Drop", x.Drop(entry(0x10, 0xF0, 0, 0)), 0)
	wantFind(t, x, hit(2), 0x12)
	wantFind(t, x, hit(1), 0x112)
}

// Each bit of a mask counts, and none that is not of it.
func TestEachBit(t *testing.T) {
	for i := range 64 {
		one, rest := uint64(1)<<i, ^(uint64(1) << i)
		x := New(1, 9)
		wantCode(t, "set", x.Add(entry(one, one, 1, 1)), 0)
		wantFind(t, x, hit(1), one)
		wantFind(t, x, hit(1), math.MaxUint64)
		wantNone(t, x, 0)
		wantNone(t, x, rest)
		wantCode(t, "clash, the other bits", x.Add(entry(rest, rest, 1, 2)), api.ErrClash)
		wantCode(t, "clash, all bits", x.Add(entry(math.MaxUint64, math.MaxUint64, 1, 2)), api.ErrClash)
		wantCode(t, "not set", x.Add(entry(0, one, 1, 2)), 0)
		wantFind(t, x, hit(2), rest)
		wantFind(t, x, hit(1), one)
		wantCode(t, "no bit", x.Add(entry(one, rest, 1, 2)), api.ErrWidth)
		wantAll(t, x, entry(0, one, 1, 2), entry(one, one, 1, 1))
	}
}

// Of several numbers each counts; one that differs is enough to keep two entries apart.
func TestSeveralNumbers(t *testing.T) {
	type two = [2]uint64
	x := New(3, 9)
	first := pairs(4, 1, two{1, 1}, two{2, 2}, two{4, 4})
	wantCode(t, "first", x.Add(first), 0)
	wantFind(t, x, hit(1), 1, 2, 4)
	wantFind(t, x, hit(1), 0xFF, 0xFF, 0xFF)
	wantNone(t, x, 0, 2, 4)
	wantNone(t, x, 1, 0, 4)
	wantNone(t, x, 1, 2, 0)
	wantNone(t, x, 4, 2, 1)
	wantCode(t, "clash", x.Add(pairs(4, 2, two{2, 2}, two{4, 4}, two{1, 1})), api.ErrClash)
	wantCode(t, "clash, a part", x.Add(pairs(4, 2, two{1, 1}, two{}, two{4, 4})), api.ErrClash)
	wantCode(t, "apart by the first", x.Add(pairs(4, 2, two{0, 1}, two{2, 2}, two{4, 4})), 0)
	wantCode(t, "apart by the second", x.Add(pairs(4, 3, two{1, 1}, two{0, 2}, two{4, 4})), 0)
	wantCode(t, "apart by the third", x.Add(pairs(4, 4, two{1, 1}, two{2, 2}, two{0, 4})), 0)
	wantCode(t, "clash with two of them", x.Add(pairs(4, 4, two{1, 1}, two{2, 2}, two{})), api.ErrClash)
	for i, wrong := range []api.Entry{
		pairs(4, 9, two{1, 0}, two{2, 2}, two{4, 4}), pairs(4, 9, two{1, 1}, two{2, 1}, two{4, 4}), pairs(4, 9, two{1, 1}, two{2, 2}, two{4, 3}),
		pairs(4, 9, two{1, 1}, two{2, 2}), pairs(4, 9, two{}, two{}, two{}, two{}), {Keys: []uint64{0, 0}, Masks: []uint64{0, 0, 0}}, {Keys: []uint64{0, 0, 0}, Masks: []uint64{0, 0}},
	} {
		wantCode(t, "wrong, Add", x.Add(wrong), api.ErrWidth)
		wantCode(t, "wrong, Change", x.Change(wrong), api.ErrWidth)
		wantCode(t, "wrong, Drop", x.Drop(wrong), api.ErrWidth)
		if x.Len() != 4 {
			t.Fatalf("wrong %d: Len %d", i, x.Len())
		}
	}
	wantFind(t, x, hit(2), 0, 2, 4)
	wantFind(t, x, hit(3), 1, 0, 4)
	wantFind(t, x, hit(4), 1, 2, 0)
	wantAll(t, x, pairs(4, 2, two{0, 1}, two{2, 2}, two{4, 4}), pairs(4, 3, two{1, 1}, two{0, 2}, two{4, 4}), pairs(4, 4, two{1, 1}, two{2, 2}, two{0, 4}), first)
}

// Find of another number of numbers finds nothing, even where the mask of all is 0.
func TestFindOfOthers(t *testing.T) {
	x := New(2, 2)
	x.Add(pairs(0, 1, [2]uint64{}, [2]uint64{}))
	wantFind(t, x, hit(1), 0, 0)
	wantFind(t, x, hit(1), 5, math.MaxUint64)
	for _, n := range []int{0, 1, 3, 4, 1000} {
		wantNone(t, x, make([]uint64, n)...)
	}
}

// Keys of no numbers: all of them fit each entry, and there is one of each Prio at most.
func TestNoNumbers(t *testing.T) {
	x := New(0, 3)
	wantNone(t, x)
	wantCode(t, "first", x.Add(api.Entry{Prio: 7, Act: 1}), 0)
	wantCode(t, "twice, empty lists", x.Add(api.Entry{Keys: []uint64{}, Masks: []uint64{}, Prio: 7}), api.ErrTwice)
	wantCode(t, "another Prio", x.Add(api.Entry{Keys: []uint64{}, Masks: []uint64{}, Prio: 3, Act: 2}), 0)
	wantCode(t, "wrong", x.Add(entry(0, 0, 1, 1)), api.ErrWidth)
	wantFind(t, x, hit(2))
	wantNone(t, x, 0)
	wantCode(t, "Change", x.Change(api.Entry{Prio: 3, Act: 5}), 0)
	if h, ok := x.Find([]uint64{}); !ok || h.Act != 5 {
		t.Fatalf("Find of an empty list: %v %v", h, ok)
	}
	wantAll(t, x, api.Entry{Prio: 3, Act: 5}, api.Entry{Prio: 7, Act: 1})
	wantCode(t, "Drop", x.Drop(api.Entry{Keys: []uint64{}, Prio: 3}), 0)
	wantFind(t, x, hit(1))
}

// No list has fewer than no numbers, and none so many.
func TestNoSuchKeys(t *testing.T) {
	for _, keys := range []int{-1, -2, math.MinInt, math.MaxInt, 1 << 40} {
		x := New(keys, 3)
		for n := range 3 {
			e := pairs(0, 1, make([][2]uint64, n)...)
			wantCode(t, "Add", x.Add(e), api.ErrWidth)
			wantCode(t, "Change", x.Change(e), api.ErrWidth)
			wantCode(t, "Drop", x.Drop(e), api.ErrWidth)
			wantNone(t, x, e.Keys...)
		}
		wantAll(t, x)
	}
}

func TestNoEntries(t *testing.T) {
	for _, most := range []int{0, -1, -100, math.MinInt} {
		x := New(1, most)
		wantCode(t, "full", x.Add(entry(0x10, 0xF0, 1, 1)), api.ErrFull)
		wantCode(t, "wrong", x.Add(entry(0x10, 0x0F, 1, 1)), api.ErrWidth)
		wantCode(t, "change", x.Change(entry(0x10, 0xF0, 1, 1)), api.ErrNone)
		wantCode(t, "drop", x.Drop(entry(0x10, 0xF0, 1, 1)), api.ErrNone)
		wantNone(t, x, 0x10)
		wantAll(t, x)
	}
}

// An entry's Len does not count, whatever is asked, and All tells 0.
func TestLenDoesNotCount(t *testing.T) {
	long := func(e api.Entry, n int) api.Entry {
		e.Len = n
		return e
	}
	for _, n := range []int{1, -1, 64, math.MinInt, math.MaxInt} {
		x := New(1, 2)
		e := entry(0x10, 0xF0, 5, 1, 2)
		wantCode(t, "Add", x.Add(long(e, n)), 0)
		wantAll(t, x, e)
		wantCode(t, "twice", x.Add(e), api.ErrTwice)
		wantCode(t, "twice, another Len", x.Add(long(e, n/2)), api.ErrTwice)
		wantCode(t, "clash", x.Add(long(entry(0, 0, 5, 1), n)), api.ErrClash)
		wantCode(t, "Change", x.Change(long(entry(0x10, 0xF0, 5, 3), n/2)), 0)
		wantAll(t, x, entry(0x10, 0xF0, 5, 3))
		wantCode(t, "Drop", x.Drop(long(e, n/3)), 0)
		wantAll(t, x)
	}
}

// An entry may say whatever: what it says is not looked at.
func TestWhateverIsSaid(t *testing.T) {
	x := New(1, 9)
	said := []api.Hit{hit(0), hit(-1), hit(math.MinInt), hit(math.MaxInt, math.MaxUint64), hit(1, make([]uint64, 1000)...)}
	for i, h := range said {
		wantCode(t, "Add", x.Add(entry(uint64(i), 0xFF, 3, h.Act, h.Args...)), 0)
	}
	for i, h := range said {
		wantFind(t, x, h, uint64(i))
	}
}

// By Prio, then Keys, then Masks, each number without a sign, the first one first. (Of one Prio no two with the same Keys can stand: the keys themselves would fit both. So Masks never decide.)
func TestAllRises(t *testing.T) {
	const top, full = 1 << 63, math.MaxUint64
	type two = [2]uint64
	risen := []api.Entry{
		pairs(0, 0, two{full, full}, two{0, 0}),
		pairs(2, 0, two{0, full}, two{0, 0}),
		pairs(2, 0, two{1, full}, two{0, full}), pairs(2, 0, two{1, full}, two{1, full}), pairs(2, 0, two{1, full}, two{full, full}),
		pairs(2, 0, two{2, full}, two{0, top}), pairs(2, 0, two{2, full}, two{top, top}),
		pairs(2, 0, two{0x100, full}, two{0, 0}), pairs(2, 0, two{math.MaxInt64, full}, two{0, 0}), pairs(2, 0, two{top, full}, two{0, 0}), pairs(2, 0, two{full, full}, two{0, 0}),
		pairs(10, 0, two{0, 0}, two{5, 7}), pairs(10, 0, two{0, 0}, two{6, 7}),
		pairs(11, 0, two{0, 0}, two{0, 0}),
		pairs(1000, 0, two{0, full}, two{0, 0}),
	}
	r := rand.New(rand.NewSource(2))
	for range 200 {
		x := New(2, len(risen))
		for _, i := range r.Perm(len(risen)) {
			wantCode(t, "Add", x.Add(risen[i]), 0)
		}
		wantAll(t, x, risen...)
	}
}

// Entries of one Prio among others: the clash is looked for with all of it, and with it alone.
func TestClashAmongMany(t *testing.T) {
	x := New(1, 1000)
	for prio := range 5 {
		for key := range uint64(8) {
			wantCode(t, "Add", x.Add(entry(key<<4, 0xF0, prio*250, int(key))), 0)
		}
	}
	for prio := range 5 {
		for key := range uint64(8) {
			wantCode(t, "clash", x.Add(entry(key<<4|3, 0xFF, prio*250, 1)), api.ErrClash)
			wantCode(t, "apart", x.Add(entry(key<<4|0x83, 0xFF, prio*250, 1)), 0)
		}
		wantCode(t, "all", x.Add(entry(0, 0, prio*250, 1)), api.ErrClash)
		if prio > 0 {
			wantCode(t, "below", x.Add(entry(0, 0, prio*250-1, 1)), 0)
		}
		if prio < 4 {
			wantCode(t, "above", x.Add(entry(0, 0, prio*250+1, 1)), 0)
		}
	}
}

func TestManyEntries(t *testing.T) {
	const many = 5000
	x := New(1, math.MaxInt)
	for i := range many {
		wantCode(t, "Add", x.Add(entry(uint64(many-i), math.MaxUint64, i%7, many-i)), 0)
	}
	if got := len(x.All()); got != many || x.Len() != many {
		t.Fatalf("%d entries, Len %d", got, x.Len())
	}
	for i := range many {
		wantFind(t, x, hit(many-i), uint64(many-i))
		wantCode(t, "Drop", x.Drop(entry(uint64(many-i), math.MaxUint64, i%7, 0)), 0)
		wantNone(t, x, uint64(many-i))
	}
	wantAll(t, x)
}

func TestArgumentsAreNotKept(t *testing.T) {
	x, e := New(1, 3), entry(0x10, 0xF0, 5, 1, 5, 6, 7)
	spoil := func() { e.Keys[0], e.Masks[0], e.Args[0] = 0xAA, 0xFF, 100 }
	x.Add(e)
	spoil()
	wantAll(t, x, entry(0x10, 0xF0, 5, 1, 5, 6, 7))
	wantFind(t, x, hit(1, 5, 6, 7), 0x1F)
	e = entry(0x10, 0xF0, 5, 2, 8, 9)
	wantCode(t, "Change", x.Change(e), 0)
	spoil()
	wantAll(t, x, entry(0x10, 0xF0, 5, 2, 8, 9))
	wantFind(t, x, hit(2, 8, 9), 0x1F)
}

// What lies behind a list's length is neither read nor written.
func TestArgumentsStay(t *testing.T) {
	keys, masks, args := []uint64{0x10, 99}, []uint64{0xF0, 98}, []uint64{5, 6, 97}
	e := api.Entry{Keys: keys[:1], Masks: masks[:1], Prio: 5, Act: 4, Args: args[:2]}
	x := New(1, 3)
	x.Add(e)
	wantFind(t, x, hit(4, 5, 6), keys[:1]...)
	x.Add(e)
	x.Change(e)
	wantAll(t, x, entry(0x10, 0xF0, 5, 4, 5, 6))
	x.Drop(e)
	if !slices.Equal(keys, []uint64{0x10, 99}) || !slices.Equal(masks, []uint64{0xF0, 98}) || !slices.Equal(args, []uint64{5, 6, 97}) {
		t.Errorf("changed: %v %v %v", keys, masks, args)
	}
}

// What is done to an answer changes neither the table nor another list of the answer.
func TestAnswersAreNewMemory(t *testing.T) {
	x := New(1, 3)
	want := []api.Entry{entry(0x10, 0xF0, 5, 4, 5, 6), entry(0x20, 0xF0, 5, 7, 8)}
	x.Add(want[0])
	x.Add(want[1])
	h, _ := x.Find([]uint64{0x10})
	again, _ := x.Find([]uint64{0x10})
	h.Args[0] = 100
	_ = append(h.Args[:1], 100)
	if !slices.Equal(again.Args, []uint64{5, 6}) {
		t.Errorf("two answers of Find share memory: %v", again)
	}
	all, other := x.All(), x.All()
	for i := range all {
		_ = append(all[i].Keys, 100, 100, 100)
		_ = append(all[i].Masks, 100, 100, 100)
		_ = append(all[i].Args, 100, 100, 100)
	}
	if !slices.EqualFunc(all, other, sameEntry) {
		t.Errorf("lists of one answer share memory: %v", all)
	}
	for i := range all {
		all[i].Keys[0], all[i].Masks[0], all[i].Args[0] = 100, 100, 100
	}
	all[0] = api.Entry{}
	if !slices.EqualFunc(other, want, sameEntry) {
		t.Errorf("two answers of All share memory: %v", other)
	}
	wantAll(t, x, want...)
	wantFind(t, x, hit(4, 5, 6), 0x10)
}

func TestTablesAreApart(t *testing.T) {
	x, y := New(1, 1), New(1, 1)
	x.Add(entry(0x10, 0xF0, 5, 1))
	wantAll(t, y)
	wantCode(t, "Add", y.Add(entry(0x10, 0xF0, 5, 2)), 0)
	x.Drop(entry(0x10, 0xF0, 5, 0))
	wantFind(t, y, hit(2), 0x10)
}

// someNumber tells one that often is another's, too.
func someNumber(r *rand.Rand) uint64 {
	pool := []uint64{0, 1, 2, 3, 1 << 63, math.MaxUint64, 0xF0, 0x0F, r.Uint64()}
	return pool[r.Intn(len(pool))]
}

// someEntry tells one of few Prios, so that entries often clash, and now and then a wrong one.
func someEntry(r *rand.Rand, keys int) api.Entry {
	e := api.Entry{Len: r.Intn(3), Prio: r.Intn(4), Act: r.Intn(9) - 1, Args: make([]uint64, r.Intn(4))}
	for range keys {
		mask := someNumber(r)
		e.Keys, e.Masks = append(e.Keys, someNumber(r)&mask), append(e.Masks, mask)
	}
	for i := range e.Args {
		e.Args[i] = someNumber(r)
	}
	switch r.Intn(20) {
	case 0:
		e.Prio = []int{-1, 1001, 1000, math.MinInt, math.MaxInt}[r.Intn(5)]
	case 1:
		e.Keys = append(e.Keys, 0)
	case 2:
		e.Masks = e.Masks[:r.Intn(len(e.Masks)+1)]
	case 3:
		if keys > 0 {
			e.Keys[r.Intn(keys)] ^= 1 << r.Intn(64)
		}
	}
	return e
}

// oneOf tells an entry that is there, if there is one, to say something else.
func oneOf(r *rand.Rand, l *rules, e api.Entry) api.Entry {
	if len(l.list) == 0 || r.Intn(4) == 0 {
		return e
	}
	old := l.list[r.Intn(len(l.list))].e
	e.Keys, e.Masks, e.Prio = slices.Clone(old.Keys), slices.Clone(old.Masks), old.Prio
	return e
}

// After each step, whatever it was, the table and the list tell the same.
func TestAgainstTheList(t *testing.T) {
	r := rand.New(rand.NewSource(3))
	for round := range 300 {
		keys, most := round%4, r.Intn(14)
		x, l := New(keys, most), &rules{keys: keys, most: most}
		for range 120 {
			e := someEntry(r, keys)
			switch r.Intn(6) {
			case 0, 1, 2, 3:
				wantCode(t, "Add", x.Add(e), l.add(e))
			case 4:
				e = oneOf(r, l, e)
				wantCode(t, "Change", x.Change(e), l.change(e))
			case 5:
				e = oneOf(r, l, e)
				wantCode(t, "Drop", x.Drop(e), l.drop(e))
			}
			wantAll(t, x, l.all()...)
			k := someEntry(r, keys).Keys
			if want, ok := l.find(k); ok {
				wantFind(t, x, want, k...)
			} else {
				wantNone(t, x, k...)
			}
		}
	}
}

// fitting tells which of the keys of two numbers of 2 bits an entry alone is found by.
func fitting(t *testing.T, e api.Entry) [16]bool {
	x := New(2, 1)
	wantCode(t, "alone", x.Add(e), 0)
	var out [16]bool
	for k := range out {
		_, out[k] = x.Find([]uint64{uint64(k) >> 2, uint64(k) & 3})
	}
	return out
}

// All pairs of entries for keys of two numbers of 2 bits: they clash if, and only if, there are keys by which each of them is found.
func TestClashIsSomeKeysThatFitBoth(t *testing.T) {
	var entries []api.Entry
	var fit [][16]bool
	for masks := range uint64(16) {
		for keys := range uint64(16) {
			if keys&^masks == 0 {
				e := pairs(3, 1, [2]uint64{keys >> 2, masks >> 2}, [2]uint64{keys & 3, masks & 3})
				entries, fit = append(entries, e), append(fit, fitting(t, e))
			}
		}
	}
	if len(entries) != 81 {
		t.Fatalf("%d entries", len(entries))
	}
	for i, a := range entries {
		for j, b := range entries {
			want := 0
			for k := range 16 {
				if fit[i][k] && fit[j][k] {
					want = api.ErrClash
				}
			}
			if i == j {
				want = api.ErrTwice
			}
			x := New(2, 2)
			x.Add(a)
			wantCode(t, "Add", x.Add(b), want)
			if want != 0 {
				b.Prio = 4
				wantCode(t, "another Prio", x.Add(b), 0)
			}
		}
	}
}
