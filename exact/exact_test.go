package exact

import (
	"math"
	"math/rand"
	"slices"
	"testing"

	"shuntyard/api"
)

// The tests hold a table against a plain list of entries, gone through from its beginning: it shares no map and no name of keys with the package.

type list struct {
	keys, most int
	entries    []api.Entry
}

func (l *list) place(k []uint64) int {
	return slices.IndexFunc(l.entries, func(e api.Entry) bool { return slices.Equal(e.Keys, k) })
}

func (l *list) add(k []uint64, h api.Hit) int {
	switch {
	case len(k) != l.keys:
		return api.ErrMany
	case l.place(k) >= 0:
		return api.ErrTwice
	case len(l.entries) == l.most:
		return api.ErrFull
	}
	l.entries = append(l.entries, entry(k, h))
	return 0
}

func (l *list) change(k []uint64, h api.Hit) int {
	i := l.place(k)
	switch {
	case len(k) != l.keys:
		return api.ErrMany
	case i < 0:
		return api.ErrNone
	}
	l.entries[i] = entry(k, h)
	return 0
}

func (l *list) drop(k []uint64) int {
	i := l.place(k)
	switch {
	case len(k) != l.keys:
		return api.ErrMany
	case i < 0:
		return api.ErrNone
	}
	l.entries = slices.Delete(l.entries, i, i+1)
	return 0
}

func (l *list) find(k []uint64) (api.Hit, bool) {
	i := l.place(k)
	if i < 0 {
		return api.Hit{}, false
	}
	return api.Hit{Act: l.entries[i].Act, Args: l.entries[i].Args}, true
}

func (l *list) all() []api.Entry {
	out := slices.Clone(l.entries)
	slices.SortFunc(out, func(a, b api.Entry) int { return slices.Compare(a.Keys, b.Keys) })
	return out
}

func entry(k []uint64, h api.Hit) api.Entry {
	return api.Entry{Keys: slices.Clone(k), Act: h.Act, Args: slices.Clone(h.Args)}
}

func keys(k ...uint64) []uint64 { return k }

func hit(act int, args ...uint64) api.Hit { return api.Hit{Act: act, Args: args} }

func sameHit(a, b api.Hit) bool { return a.Act == b.Act && slices.Equal(a.Args, b.Args) }

func sameEntry(a, b api.Entry) bool {
	return slices.Equal(a.Keys, b.Keys) && slices.Equal(a.Masks, b.Masks) && a.Len == b.Len && a.Prio == b.Prio &&
		a.Act == b.Act && slices.Equal(a.Args, b.Args)
}

func wantAll(t *testing.T, x *Table, want ...api.Entry) {
	t.Helper()
	if got := x.All(); !slices.EqualFunc(got, want, sameEntry) {
		t.Fatalf("All: %v, want %v", got, want)
	}
	if got := x.Len(); got != len(want) {
		t.Fatalf("Len: %d, want %d", got, len(want))
	}
}

func wantCode(t *testing.T, what string, got, want int) {
	t.Helper()
	if got != want {
		t.Fatalf("%s: the code %d, want %d", what, got, want)
	}
}

func wantFind(t *testing.T, x *Table, k []uint64, want api.Hit) {
	t.Helper()
	if h, ok := x.Find(k); !ok || !sameHit(h, want) {
		t.Fatalf("Find(%v): %v %v, want %v", k, h, ok, want)
	}
}

func wantNone(t *testing.T, x *Table, k []uint64) {
	t.Helper()
	if h, ok := x.Find(k); ok || !sameHit(h, api.Hit{}) {
		t.Fatalf("Find(%v): %v %v, want none", k, h, ok)
	}
}

func TestExamples(t *testing.T) {
	x := New(1, 1)
	wantCode(t, "Add 5", x.Add(keys(5), hit(1)), 0)
	wantCode(t, "Add 5 again", x.Add(keys(5), hit(1)), api.ErrTwice)
	wantCode(t, "Add 6", x.Add(keys(6), hit(1)), api.ErrFull)
	wantCode(t, "Drop 5", x.Drop(keys(5)), 0)
	wantCode(t, "Add 6 then", x.Add(keys(6), hit(1)), 0)
	wantAll(t, x, entry(keys(6), hit(1)))
}

func TestEmpty(t *testing.T) {
	x := New(2, 5)
	wantAll(t, x)
	wantNone(t, x, keys(0, 0))
	wantCode(t, "Change", x.Change(keys(0, 0), hit(1)), api.ErrNone)
	wantCode(t, "Drop", x.Drop(keys(0, 0)), api.ErrNone)
	wantAll(t, x)
}

// Of several codes the first is told that the document names, and nothing changes with one.
func TestAddCodes(t *testing.T) {
	x := New(2, 2)
	wantCode(t, "first", x.Add(keys(1, 2), hit(7, 8, 9)), 0)
	wantCode(t, "twice", x.Add(keys(1, 2), hit(3)), api.ErrTwice)
	wantCode(t, "twice, alike", x.Add(keys(1, 2), hit(7, 8, 9)), api.ErrTwice)
	wantFind(t, x, keys(1, 2), hit(7, 8, 9))
	wantCode(t, "second", x.Add(keys(2, 1), hit(-4)), 0)
	wantCode(t, "full", x.Add(keys(3, 3), hit(1)), api.ErrFull)
	wantCode(t, "twice and full", x.Add(keys(2, 1), hit(1)), api.ErrTwice)
	for _, k := range [][]uint64{nil, {}, keys(1), keys(1, 2, 0), keys(1, 2, 3, 4)} {
		wantCode(t, "many and full", x.Add(k, hit(1)), api.ErrMany)
	}
	wantAll(t, x, entry(keys(1, 2), hit(7, 8, 9)), entry(keys(2, 1), hit(-4)))
}

func TestChangeCodes(t *testing.T) {
	x := New(2, 2)
	x.Add(keys(1, 2), hit(7, 8, 9))
	x.Add(keys(2, 1), hit(4))
	wantCode(t, "none", x.Change(keys(1, 1), hit(1)), api.ErrNone)
	for _, k := range [][]uint64{nil, {}, keys(1), keys(1, 2, 0)} {
		wantCode(t, "many", x.Change(k, hit(1)), api.ErrMany)
	}
	wantAll(t, x, entry(keys(1, 2), hit(7, 8, 9)), entry(keys(2, 1), hit(4)))
	wantCode(t, "fewer arguments", x.Change(keys(1, 2), hit(5, 6)), 0)
	wantFind(t, x, keys(1, 2), hit(5, 6))
	wantCode(t, "more arguments", x.Change(keys(2, 1), hit(0, 1, 2, 3, 4)), 0)
	wantFind(t, x, keys(2, 1), hit(0, 1, 2, 3, 4))
	wantCode(t, "nothing to say", x.Change(keys(1, 2), api.Hit{}), 0)
	wantAll(t, x, entry(keys(1, 2), api.Hit{}), entry(keys(2, 1), hit(0, 1, 2, 3, 4)))
	wantCode(t, "still there", x.Add(keys(1, 2), hit(1)), api.ErrTwice)
}

func TestDropCodes(t *testing.T) {
	x := New(2, 2)
	x.Add(keys(1, 2), hit(7, 8, 9))
	x.Add(keys(2, 1), hit(4))
	wantCode(t, "none", x.Drop(keys(2, 2)), api.ErrNone)
	for _, k := range [][]uint64{nil, {}, keys(1), keys(1, 2, 0)} {
		wantCode(t, "many", x.Drop(k), api.ErrMany)
	}
	wantAll(t, x, entry(keys(1, 2), hit(7, 8, 9)), entry(keys(2, 1), hit(4)))
	wantCode(t, "there", x.Drop(keys(1, 2)), 0)
	wantCode(t, "gone", x.Drop(keys(1, 2)), api.ErrNone)
	wantCode(t, "change of the gone", x.Change(keys(1, 2), hit(1)), api.ErrNone)
	wantNone(t, x, keys(1, 2))
	wantAll(t, x, entry(keys(2, 1), hit(4)))
	wantCode(t, "room again", x.Add(keys(0, 0), hit(6)), 0)
	wantCode(t, "full again", x.Add(keys(1, 2), hit(1)), api.ErrFull)
	wantAll(t, x, entry(keys(0, 0), hit(6)), entry(keys(2, 1), hit(4)))
}

func TestFind(t *testing.T) {
	x := New(2, 9)
	x.Add(keys(1, 2), hit(7, 8, 9))
	x.Add(keys(0, 0), api.Hit{})
	wantFind(t, x, keys(1, 2), hit(7, 8, 9))
	wantFind(t, x, keys(0, 0), api.Hit{})
	for _, k := range [][]uint64{nil, {}, keys(0), keys(1), keys(2, 1), keys(1, 3), keys(3, 2), keys(0, 1), keys(1, 2, 0), keys(0, 1, 2)} {
		wantNone(t, x, k)
	}
}

// An entry may say whatever: a Hit is not looked at.
func TestWhateverIsSaid(t *testing.T) {
	x := New(1, 9)
	said := []api.Hit{hit(0), hit(-1), hit(math.MinInt), hit(math.MaxInt, math.MaxUint64), hit(1, make([]uint64, 1000)...)}
	for i, h := range said {
		wantCode(t, "Add", x.Add(keys(uint64(i)), h), 0)
	}
	for i, h := range said {
		wantFind(t, x, keys(uint64(i)), h)
	}
}

// Numbers without a sign, each by all of its bits, the first number first.
func TestAllRises(t *testing.T) {
	risen := [][]uint64{
		{0, 0}, {0, 1}, {0, math.MaxUint64}, {1, 0}, {1, 0xFF}, {1, 0x100}, {0xFF, 9}, {0x100, 8}, {0x0102, 0}, {0x0201, 0},
		{math.MaxUint32, 7}, {math.MaxUint32 + 1, 6}, {math.MaxInt64, 5}, {1 << 63, 0}, {1 << 63, 1 << 63}, {math.MaxUint64, 0}, {math.MaxUint64, math.MaxUint64},
	}
	r := rand.New(rand.NewSource(1))
	for range 200 {
		x := New(2, len(risen))
		for _, i := range r.Perm(len(risen)) {
			wantCode(t, "Add", x.Add(risen[i], hit(i, uint64(i))), 0)
		}
		var want []api.Entry
		for i, k := range risen {
			want = append(want, entry(k, hit(i, uint64(i))))
		}
		wantAll(t, x, want...)
	}
}

// Each of a number's bits tells one entry from another.
func TestEachBitCounts(t *testing.T) {
	x := New(3, 1000)
	wantCode(t, "zeros", x.Add(keys(0, 0, 0), hit(-1)), 0)
	for i := range 3 * 64 {
		k := make([]uint64, 3)
		k[i/64] = 1 << (i % 64)
		wantNone(t, x, k)
		wantCode(t, "one bit", x.Add(k, hit(i)), 0)
	}
	for i := range 3 * 64 {
		k := make([]uint64, 3)
		k[i/64] = 1 << (i % 64)
		wantFind(t, x, k, hit(i))
	}
	if x.Len() != 193 {
		t.Errorf("Len: %d", x.Len())
	}
}

// Keys of no numbers: there is one list of them, and one entry at most.
func TestKeysOfNoNumbers(t *testing.T) {
	for _, n := range []int{0, -1, -2, math.MinInt} {
		x := New(n, 3)
		wantCode(t, "many", x.Add(keys(0), hit(1)), api.ErrMany)
		wantCode(t, "change, none", x.Change(nil, hit(1)), api.ErrNone)
		wantCode(t, "drop, none", x.Drop([]uint64{}), api.ErrNone)
		wantNone(t, x, nil)
		wantCode(t, "first", x.Add(nil, hit(1, 2)), 0)
		wantCode(t, "twice", x.Add([]uint64{}, hit(3)), api.ErrTwice)
		wantFind(t, x, []uint64{}, hit(1, 2))
		wantCode(t, "change", x.Change([]uint64{}, hit(4)), 0)
		wantNone(t, x, keys(0))
		wantAll(t, x, entry(nil, hit(4)))
		wantCode(t, "drop", x.Drop(nil), 0)
		wantAll(t, x)
	}
}

func TestNoEntries(t *testing.T) {
	for _, most := range []int{0, -1, -100, math.MinInt} {
		x := New(1, most)
		wantCode(t, "full", x.Add(keys(1), hit(1)), api.ErrFull)
		wantCode(t, "many", x.Add(nil, hit(1)), api.ErrMany)
		wantCode(t, "change", x.Change(keys(1), hit(1)), api.ErrNone)
		wantCode(t, "drop", x.Drop(keys(1)), api.ErrNone)
		wantNone(t, x, keys(1))
		wantAll(t, x)
	}
}

// There are 100000 entries at most, whatever is asked for; so many, in falling order, would take minutes if each one moved all others.
func TestMostEntries(t *testing.T) {
	const bound = 100000
	for _, most := range []int{bound, bound + 1, math.MaxInt} {
		x := New(1, most)
		for i := range bound {
			wantCode(t, "Add", x.Add(keys(uint64(bound-i)), hit(i)), 0)
		}
		wantCode(t, "one more", x.Add(keys(0), hit(1)), api.ErrFull)
		wantCode(t, "twice", x.Add(keys(7), hit(1)), api.ErrTwice)
		all := x.All()
		if len(all) != bound || x.Len() != bound {
			t.Fatalf("%d entries, Len %d", len(all), x.Len())
		}
		for i, e := range all {
			if !sameEntry(e, entry(keys(uint64(i+1)), hit(bound-1-i))) {
				t.Fatalf("the entry %d: %v", i, e)
			}
		}
		for i := range bound {
			wantCode(t, "Drop", x.Drop(keys(uint64(i+1))), 0)
		}
		wantAll(t, x)
	}
}

func TestOneBelowTheBound(t *testing.T) {
	x := New(1, 99999)
	for i := range 99999 {
		wantCode(t, "Add", x.Add(keys(uint64(i)), api.Hit{}), 0)
	}
	wantCode(t, "one more", x.Add(keys(99999), api.Hit{}), api.ErrFull)
}

// No list is as long as these keys are; New lays no room for them, either.
func TestKeysWithoutEnd(t *testing.T) {
	x := New(math.MaxInt, math.MaxInt)
	for _, k := range [][]uint64{nil, keys(1), make([]uint64, 1000)} {
		wantCode(t, "Add", x.Add(k, hit(1)), api.ErrMany)
		wantCode(t, "Change", x.Change(k, hit(1)), api.ErrMany)
		wantCode(t, "Drop", x.Drop(k), api.ErrMany)
		wantNone(t, x, k)
	}
	wantAll(t, x)
}

func TestLongKeys(t *testing.T) {
	const n = 200000
	x, k := New(n, 3), make([]uint64, n)
	wantCode(t, "zeros", x.Add(k, hit(1)), 0)
	k[n-1] = 1
	wantNone(t, x, k)
	wantCode(t, "the last one", x.Add(k, hit(2)), 0)
	wantFind(t, x, k, hit(2))
	wantFind(t, x, make([]uint64, n), hit(1))
	wantAll(t, x, entry(make([]uint64, n), hit(1)), entry(k, hit(2)))
}

func TestArgumentsAreNotKept(t *testing.T) {
	x := New(2, 3)
	k, h := keys(1, 2), hit(5, 6, 7)
	x.Add(k, h)
	k[0], h.Args[0] = 100, 100
	wantAll(t, x, entry(keys(1, 2), hit(5, 6, 7)))
	k[0] = 1
	wantCode(t, "Change", x.Change(k, h), 0)
	k[1], h.Args[1] = 101, 101
	wantAll(t, x, entry(keys(1, 2), hit(5, 100, 7)))
}

func TestArgumentsStay(t *testing.T) {
	k, args := keys(1, 2, 99), keys(5, 6, 99)
	x, h := New(2, 3), api.Hit{Act: 4, Args: args[:2]}
	x.Add(k[:2], h)
	x.Change(k[:2], h)
	wantFind(t, x, k[:2], hit(4, 5, 6))
	x.Drop(k[:2])
	if !slices.Equal(k, keys(1, 2, 99)) || !slices.Equal(args, keys(5, 6, 99)) {
		t.Errorf("changed: %v %v", k, args)
	}
}

// What lies behind a list's length is not read.
func TestBehindTheLength(t *testing.T) {
	x, k := New(2, 3), keys(1, 2)
	x.Add(k, hit(1))
	wantCode(t, "Add", x.Add(k[:1], hit(1)), api.ErrMany)
	wantCode(t, "Change", x.Change(k[:1], hit(1)), api.ErrMany)
	wantCode(t, "Drop", x.Drop(k[:1]), api.ErrMany)
	wantNone(t, x, k[:1])
}

// What is done to an answer changes neither the table nor another list of the answer.
func TestAnswersAreNewMemory(t *testing.T) {
	x := New(1, 3)
	x.Add(keys(1), hit(4, 5, 6))
	x.Add(keys(2), hit(7, 8))
	h, _ := x.Find(keys(1))
	again, _ := x.Find(keys(1))
	h.Args[0] = 100
	_ = append(h.Args[:1], 100)
	if !slices.Equal(again.Args, keys(5, 6)) {
		t.Errorf("two answers of Find share memory: %v", again)
	}
	all, other := x.All(), x.All()
	for i := range all {
		_ = append(all[i].Keys, 100, 100)
		_ = append(all[i].Args, 100, 100)
	}
	if !slices.EqualFunc(all, other, sameEntry) {
		t.Errorf("lists of one answer share memory: %v", all)
	}
	for i := range all {
		all[i].Keys[0], all[i].Args[0] = 100, 100
	}
	all[0] = api.Entry{}
	want := []api.Entry{entry(keys(1), hit(4, 5, 6)), entry(keys(2), hit(7, 8))}
	if !slices.EqualFunc(other, want, sameEntry) {
		t.Errorf("two answers of All share memory: %v", other)
	}
	wantAll(t, x, want...)
}

func TestTablesAreApart(t *testing.T) {
	x, y := New(1, 1), New(1, 1)
	x.Add(keys(1), hit(1))
	wantAll(t, y)
	wantCode(t, "Add", y.Add(keys(1), hit(2)), 0)
	x.Drop(keys(1))
	wantFind(t, y, keys(1), hit(2))
}

// What a table tells hangs on what was added and not dropped, not on when.
func TestNotOnWhen(t *testing.T) {
	r := rand.New(rand.NewSource(2))
	for range 300 {
		n := 1 + r.Intn(20)
		plain, mixed := New(1, n), New(1, n)
		for i := range n {
			plain.Add(keys(uint64(i)), hit(i, uint64(i)))
		}
		for _, i := range r.Perm(n) {
			other := keys(uint64(100 + r.Intn(5)))
			mixed.Add(other, hit(9))
			mixed.Drop(other)
			mixed.Add(keys(uint64(i)), hit(50))
			if r.Intn(2) == 0 {
				mixed.Drop(keys(uint64(i)))
				mixed.Add(keys(uint64(i)), hit(51, 1, 2))
			}
			mixed.Change(keys(uint64(i)), hit(i, uint64(i)))
		}
		wantAll(t, mixed, plain.All()...)
		for i := range n {
			wantFind(t, mixed, keys(uint64(i)), hit(i, uint64(i)))
		}
		wantCode(t, "full", mixed.Add(keys(100), hit(1)), api.ErrFull)
	}
}

func someKeys(r *rand.Rand, n int) []uint64 {
	pool := []uint64{0, 1, 2, 0xFF, 0x100, 1 << 63, math.MaxUint64}
	if r.Intn(10) == 0 {
		n += r.Intn(3) - 1
	}
	k := make([]uint64, max(n, 0))
	for i := range k {
		k[i] = pool[r.Intn(len(pool))]
	}
	return k
}

func someHit(r *rand.Rand) api.Hit {
	h := api.Hit{Act: r.Intn(9) - 1, Args: make([]uint64, r.Intn(4))}
	for i := range h.Args {
		h.Args[i] = r.Uint64() >> r.Intn(64)
	}
	return h
}

// After each step, whatever it was, the table and the list tell the same.
func TestAgainstTheList(t *testing.T) {
	r := rand.New(rand.NewSource(3))
	for range 400 {
		n, most := r.Intn(4), r.Intn(12)
		x, l := New(n, most), &list{keys: n, most: most}
		for range 150 {
			k, h := someKeys(r, n), someHit(r)
			switch r.Intn(4) {
			case 0, 1:
				wantCode(t, "Add", x.Add(k, h), l.add(k, h))
			case 2:
				wantCode(t, "Change", x.Change(k, h), l.change(k, h))
			case 3:
				wantCode(t, "Drop", x.Drop(k), l.drop(k))
			}
			wantAll(t, x, l.all()...)
			k = someKeys(r, n)
			if want, ok := l.find(k); ok {
				wantFind(t, x, k, want)
			} else {
				wantNone(t, x, k)
			}
		}
	}
}
