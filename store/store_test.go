package store

import (
	"math"
	"reflect"
	"slices"
	"testing"

	"shuntyard/api"
)

// three tells actions without parameters, with one of 8 bits, with two of 4 and of 48.
func three() []api.Action {
	return []api.Action{{}, {W: []int{8}}, {W: []int{4, 48}}}
}

func hit(act int, args ...uint64) api.Hit { return api.Hit{Act: act, Args: args} }

func whole1(key uint64, act int, args ...uint64) api.Entry {
	return api.Entry{Keys: []uint64{key}, Act: act, Args: args}
}

func begin(key uint64, n, act int, args ...uint64) api.Entry {
	return api.Entry{Keys: []uint64{key}, Len: n, Act: act, Args: args}
}

func masked(key, mask uint64, prio, act int, args ...uint64) api.Entry {
	return api.Entry{Keys: []uint64{key}, Masks: []uint64{mask}, Prio: prio, Act: act, Args: args}
}

// of tells a table of a kind for all three actions that says the first one where nothing fits.
func of(kind, most int) api.Table {
	return api.Table{Kind: kind, Acts: []int{0, 1, 2}, Cap: most}
}

func wantNew(t *testing.T, tab api.Table, w []int, acts []api.Action) *Store {
	t.Helper()
	s, fault := New(tab, w, acts)
	if s == nil || fault != (api.Fault{}) {
		t.Fatalf("New(%v, %v, %v): %v %v", tab, w, acts, s, fault)
	}
	return s
}

func wantCode(t *testing.T, what string, got, want int) {
	t.Helper()
	if got != want {
		t.Fatalf("%s: the code %d, want %d", what, got, want)
	}
}

func sameHit(a, b api.Hit) bool { return a.Act == b.Act && slices.Equal(a.Args, b.Args) }

func sameEntry(a, b api.Entry) bool {
	return slices.Equal(a.Keys, b.Keys) && slices.Equal(a.Masks, b.Masks) && a.Len == b.Len && a.Prio == b.Prio &&
		a.Act == b.Act && slices.Equal(a.Args, b.Args)
}

func wantAll(t *testing.T, s *Store, want ...api.Entry) {
	t.Helper()
	if got := s.All(); !slices.EqualFunc(got, want, sameEntry) {
		t.Fatalf("All: %v, want %v", got, want)
	}
	if got := s.Len(); got != len(want) {
		t.Fatalf("Len: %d, want %d", got, len(want))
	}
}

func wantSays(t *testing.T, s *Store, want api.Hit) {
	t.Helper()
	if got := s.Says(); !sameHit(got, want) {
		t.Fatalf("Says: %v, want %v", got, want)
	}
}

func wantFind(t *testing.T, s *Store, want api.Hit, there bool, k ...uint64) {
	t.Helper()
	if h, ok := s.Find(k); ok != there || !sameHit(h, want) {
		t.Fatalf("Find(%#x): %v %v, want %v %v", k, h, ok, want, there)
	}
}

func TestExamples(t *testing.T) {
	s := wantNew(t, of(api.KPrefix, 2), []int{8}, three())
	wantCode(t, "Add", s.Add(api.Entry{Keys: []uint64{0x80}, Len: 1}), 0)
	wantAll(t, s, begin(0x80, 1, 0))
	wantFind(t, s, hit(0), true, 0xFF)
	wantFind(t, s, hit(0), false, 0x7F)
}

func TestEmpty(t *testing.T) {
	for _, kind := range []int{api.KExact, api.KPrefix, api.KTernary} {
		tab := of(kind, 3)
		tab.Def, tab.Args = 2, []uint64{15, 1<<48 - 1}
		s := wantNew(t, tab, []int{8}, three())
		wantAll(t, s)
		wantSays(t, s, hit(2, 15, 1<<48-1))
		wantFind(t, s, hit(2, 15, 1<<48-1), false, 0)
		if s.Keys() != 1 {
			t.Errorf("Keys: %d", s.Keys())
		}
	}
	for many := 1; many <= 3; many++ {
		for _, kind := range []int{api.KExact, api.KTernary} {
			if got := wantNew(t, of(kind, 3), []int{8, 1, 48}[:many], three()).Keys(); got != many {
				t.Errorf("Keys: %d, want %d", got, many)
			}
		}
	}
}

// setup is what Check and New are given.
type setup struct {
	tab  api.Table
	w    []int
	acts []api.Action
}

// sound tells one with nothing wrong.
func sound(kind int) setup {
	s := setup{api.Table{Kind: kind, Keys: []api.Ref{{H: 0, F: 1}}, Acts: []int{2, 1}, Cap: 4, Def: 2, Args: []uint64{15, 7}}, []int{8, 8}, three()}
	if kind == api.KPrefix {
		s.w = s.w[:1]
	}
	return s
}

type flaw struct {
	code int
	do   func(s *setup)
}

// flaws tells what may be wrong, in the order in which the document names it.
func flaws(kind int) []flaw {
	tooMany := []int{8, 8, 8, 8}
	if kind == api.KPrefix {
		tooMany = tooMany[:2]
	}
	return []flaw{
		{api.ErrKind, func(s *setup) { s.tab.Kind = 0 }},
		{api.ErrMany, func(s *setup) { s.w = tooMany }},
		{api.ErrMany, func(s *setup) { s.tab.Acts = []int{2, 1, 2, 1, 2} }},
		{api.ErrRange, func(s *setup) { s.tab.Cap = 17 }},
		{api.ErrWidth, func(s *setup) { s.w[len(s.w)-1] = 49 }},
		{api.ErrRange, func(s *setup) { s.tab.Acts[1] = 3 }},
		{api.ErrKind, func(s *setup) { s.tab.Def = 0 }},
		{api.ErrMany, func(s *setup) { s.tab.Args = append(s.tab.Args, 0) }},
		{api.ErrWidth, func(s *setup) { s.tab.Args[0] = 16 }},
	}
}

// wantCheck asks Check and New, whose codes are the same.
func wantCheck(t *testing.T, what string, s setup, want int) {
	t.Helper()
	if got := Check(s.tab, s.w, s.acts); got != want {
		t.Fatalf("%s: Check(%v): %d, want %d", what, s, got, want)
	}
	made, fault := New(s.tab, s.w, s.acts)
	wantFault := api.Fault{}
	if want != 0 {
		wantFault = api.Fault{Code: want, At: -1}
	}
	if fault != wantFault || (made == nil) != (want != 0) {
		t.Fatalf("%s: New(%v): %v %v, want %v", what, s, made, fault, wantFault)
	}
}

// Whatever is wrong together, the first is told that the document names.
func TestCheckOrder(t *testing.T) {
	for _, kind := range []int{api.KExact, api.KPrefix, api.KTernary} {
		all := flaws(kind)
		for set := range 1 << len(all) {
			s, want := sound(kind), 0
			// From the last to the first, as one that is named ahead may hide one behind it.
			for i := len(all) - 1; i >= 0; i-- {
				if set>>i&1 == 1 {
					all[i].do(&s)
					want = all[i].code
				}
			}
			wantCheck(t, "order", s, want)
		}
	}
}

func TestCheckKind(t *testing.T) {
	for kind, want := range map[int]int{
		api.KExact: 0, api.KTernary: 0, api.KPrefix: api.ErrMany, // two widths
		0: api.ErrKind, 4: api.ErrKind, -1: api.ErrKind, 9: api.ErrKind, math.MinInt: api.ErrKind, math.MaxInt: api.ErrKind,
	} {
		s := sound(api.KExact)
		s.tab.Kind = kind
		wantCheck(t, "kind", s, want)
	}
	wantCheck(t, "nothing at all", setup{}, api.ErrKind)
	wantCheck(t, "a kind alone", setup{tab: api.Table{Kind: api.KExact}}, api.ErrMany)
}

func TestCheckMany(t *testing.T) {
	for _, kind := range []int{api.KExact, api.KPrefix, api.KTernary} {
		most := 3
		if kind == api.KPrefix {
			most = 1
		}
		for many := range 8 {
			s, want := sound(kind), api.ErrMany
			s.w = slices.Repeat([]int{1}, many)
			if many >= 1 && many <= most {
				want = 0
			}
			wantCheck(t, "widths", s, want)
			s, want = sound(kind), api.ErrMany
			s.tab.Acts = slices.Repeat([]int{2}, many)
			if many >= 1 && many <= 4 {
				want = 0
			}
			wantCheck(t, "acts", s, want)
		}
		s := sound(kind)
		s.w = make([]int, 100000)
		wantCheck(t, "very many widths", s, api.ErrMany)
		s = sound(kind)
		s.tab.Acts = make([]int, 100000)
		wantCheck(t, "very many acts", s, api.ErrMany)
	}
}

func TestCheckNumbers(t *testing.T) {
	for _, kind := range []int{api.KExact, api.KPrefix, api.KTernary} {
		for most, want := range map[int]int{0: 0, 1: 0, 15: 0, 16: 0, 17: api.ErrRange, -1: api.ErrRange, math.MinInt: api.ErrRange, math.MaxInt: api.ErrRange} {
			s := sound(kind)
			s.tab.Cap = most
			wantCheck(t, "Cap", s, want)
		}
		for width, want := range map[int]int{1: 0, 2: 0, 47: 0, 48: 0, 0: api.ErrWidth, 49: api.ErrWidth, 64: api.ErrWidth, -1: api.ErrWidth, math.MinInt: api.ErrWidth, math.MaxInt: api.ErrWidth} {
			for i := range sound(kind).w {
				s := sound(kind)
				s.w[i] = width
				wantCheck(t, "width", s, want)
			}
		}
		for act, want := range map[int]int{0: 0, 1: 0, 2: 0, 3: api.ErrRange, -1: api.ErrRange, 8: api.ErrRange, math.MinInt: api.ErrRange, math.MaxInt: api.ErrRange} {
			for i := range 4 {
				s := sound(kind)
				s.tab.Acts = []int{2, 2, 2, 2}
				s.tab.Acts[i] = act
				wantCheck(t, "act", s, want)
			}
		}
		s := sound(kind)
		s.acts = nil
		wantCheck(t, "no actions", s, api.ErrRange)
		s.acts = three()[:2]
		wantCheck(t, "one action less", s, api.ErrRange)
		s.acts = make([]api.Action, 1000)
		s.tab.Acts, s.tab.Def, s.tab.Args = []int{999}, 999, nil
		wantCheck(t, "many actions", s, 0)
	}
}

// The fields are not looked at, only their widths; and of actions only the widths of parameters.
func TestCheckLeavesOut(t *testing.T) {
	s := sound(api.KExact)
	for _, keys := range [][]api.Ref{nil, {}, {{H: -9, F: 77}}, make([]api.Ref, 50), {{H: math.MinInt, F: math.MaxInt}}} {
		s.tab.Keys = keys
		wantCheck(t, "Keys", s, 0)
	}
	s.acts[2].Ops = []api.Op{{Kind: 99, E: make([]api.Push, 99)}}
	s.acts[0] = api.Action{W: []int{-1, 99, 0, 0, 0}}
	wantCheck(t, "actions", s, 0)
}

type saidCase struct {
	h    api.Hit
	want int
}

// sayings tells what may, and may not, be said by a table of the actions 1, 2 and 4 of five.
func sayings() (api.Table, []api.Action, []saidCase) {
	acts := []api.Action{{}, {W: []int{8}}, {W: []int{1, 48}}, {W: []int{8}}, {}}
	tab := api.Table{Acts: []int{4, 2, 1}, Cap: 4, Def: 4}
	return tab, acts, []saidCase{
		{hit(1, 0), 0}, {hit(1, 255), 0}, {hit(2, 0, 0), 0}, {hit(2, 1, 1<<48-1), 0}, {hit(4), 0}, {api.Hit{Act: 4, Args: []uint64{}}, 0},
		{hit(0), api.ErrKind}, {hit(3, 7), api.ErrKind}, {hit(5), api.ErrKind}, {hit(-1), api.ErrKind}, {hit(math.MinInt), api.ErrKind}, {hit(math.MaxInt), api.ErrKind},
		{hit(0, 1, 2), api.ErrKind}, {hit(3, 256), api.ErrKind}, {hit(9, make([]uint64, 1000)...), api.ErrKind},
		{hit(1), api.ErrMany}, {hit(1, 1, 2), api.ErrMany}, {hit(1, 256, 0), api.ErrMany}, {hit(2), api.ErrMany}, {hit(2, 1), api.ErrMany}, {hit(2, 2), api.ErrMany}, {hit(2, 1, 2, 3), api.ErrMany},
		{hit(4, 0), api.ErrMany}, {hit(4, make([]uint64, 1000)...), api.ErrMany},
		{hit(1, 256), api.ErrWidth}, {hit(1, math.MaxUint64), api.ErrWidth}, {hit(2, 2, 0), api.ErrWidth}, {hit(2, 0, 1<<48), api.ErrWidth}, {hit(2, 1<<63, 1), api.ErrWidth}, {hit(2, 1, 1<<63), api.ErrWidth},
	}
}

// What may be said is the same of what is said at first, of Default, of Add and of Change.
func TestWhatMayBeSaid(t *testing.T) {
	for _, kind := range []int{api.KExact, api.KPrefix, api.KTernary} {
		tab, acts, cases := sayings()
		tab.Kind = kind
		for _, c := range cases {
			first := tab
			first.Def, first.Args = c.h.Act, c.h.Args
			wantCheck(t, "at first", setup{first, []int{8}, acts}, c.want)
			s := wantNew(t, tab, []int{8}, acts)
			says, e := hit(4), api.Entry{Keys: []uint64{0}, Act: c.h.Act, Args: c.h.Args}
			old := api.Entry{Keys: []uint64{0}, Act: 4}
			if kind == api.KTernary {
				e.Masks, old.Masks = []uint64{0}, []uint64{0}
			}
			var list []api.Entry
			wantCode(t, "Add", s.Add(e), c.want)
			if c.want == 0 {
				list = append(list, e)
			}
			wantAll(t, s, list...)
			s.Drop(e)
			wantCode(t, "the old one", s.Add(old), 0)
			wantCode(t, "Change", s.Change(e), c.want)
			wantCode(t, "Default", s.Default(c.h), c.want)
			if c.want == 0 {
				says, old = c.h, e
			}
			wantAll(t, s, old)
			wantSays(t, s, says)
			wantFind(t, s, hit(old.Act, old.Args...), true, 0)
			wantFind(t, s, says, false, 256)
			wantCode(t, "Drop, whatever is said", s.Drop(e), 0)
			wantAll(t, s)
		}
	}
}

// Actions are not looked at but for what their parameters have: so with no bits, with fewer, with more than there can be.
func TestOddParameters(t *testing.T) {
	for _, c := range []struct {
		width int
		v     uint64
		want  int
	}{
		{64, math.MaxUint64, 0}, {63, math.MaxUint64, api.ErrWidth}, {63, math.MaxInt64, 0}, {65, math.MaxUint64, 0}, {1000, math.MaxUint64, 0}, {math.MaxInt, math.MaxUint64, 0},
		{0, 0, 0}, {0, 1, api.ErrWidth}, {-1, 1, api.ErrWidth}, {-1, 0, api.ErrWidth}, {math.MinInt, 0, api.ErrWidth}, {math.MinInt, 5, api.ErrWidth},
	} {
		acts := []api.Action{{W: []int{c.width}}, {}, {W: make([]int, 9)}}
		tab := api.Table{Kind: api.KExact, Acts: []int{0, 1, 2}, Cap: 4, Def: 1}
		s := wantNew(t, tab, []int{8}, acts)
		wantCode(t, "Default", s.Default(hit(0, c.v)), c.want)
		wantCode(t, "Add", s.Add(whole1(1, 0, c.v)), c.want)
		wantCode(t, "nine parameters", s.Default(hit(2, make([]uint64, 9)...)), 0)
		tab.Def, tab.Args = 0, []uint64{c.v}
		wantCheck(t, "at first", setup{tab, []int{8}, acts}, c.want)
	}
}

// marred is an entry with something wrong, in the order in which the document names it.
type marred struct {
	code int
	said bool // of Drop it does not count
	do   func(e *api.Entry)
}

// marks tells what may be wrong with the entry of base, whatever else there is.
func marks(kind int) []marred {
	keys := func(n int) marred {
		return marred{api.ErrMany, false, func(e *api.Entry) { e.Keys = make([]uint64, n) }}
	}
	masks := func(code, n int) marred {
		return marred{code, false, func(e *api.Entry) { e.Masks = make([]uint64, n) }}
	}
	long := func(n int) marred { return marred{api.ErrForm, false, func(e *api.Entry) { e.Len = n }} }
	prio := func(code, n int) marred { return marred{code, false, func(e *api.Entry) { e.Prio = n }} }
	wide := marred{api.ErrWidth, false, func(e *api.Entry) { e.Keys[len(e.Keys)-1] = 256 }}
	said := []marred{
		{api.ErrKind, true, func(e *api.Entry) { e.Act = 3 }},
		{api.ErrMany, true, func(e *api.Entry) { e.Args = append(e.Args, 1) }},
		{api.ErrWidth, true, func(e *api.Entry) { e.Args[0] = 256 }},
	}
	switch kind {
	case api.KExact:
		return slices.Concat([]marred{keys(1), keys(3), masks(api.ErrForm, 2), prio(api.ErrForm, 1), long(1), wide}, said)
	case api.KPrefix:
		return slices.Concat([]marred{keys(0), keys(2), masks(api.ErrForm, 1), prio(api.ErrForm, 1), wide}, said, []marred{
			{api.ErrWidth, false, func(e *api.Entry) { e.Len = 9 }},
			{api.ErrWidth, false, func(e *api.Entry) { e.Keys[0] = 0xC1 }},
		})
	}
	return slices.Concat([]marred{keys(1), keys(3), masks(api.ErrMany, 1), masks(api.ErrMany, 0), long(1), wide,
		{api.ErrWidth, false, func(e *api.Entry) { e.Masks[0] = 0x1FF }}}, said, []marred{
		prio(api.ErrWidth, 1001), {api.ErrWidth, false, func(e *api.Entry) { e.Keys[0] = 1 }}})
}

// base tells an entry of a kind with nothing wrong, and the widths of its keys.
func base(kind int) (api.Entry, []int) {
	switch kind {
	case api.KExact:
		return api.Entry{Keys: []uint64{0x80, 255}, Act: 1, Args: []uint64{255}}, []int{8, 8}
	case api.KPrefix:
		return api.Entry{Keys: []uint64{0xC0}, Len: 2, Act: 1, Args: []uint64{255}}, []int{8}
	}
	return api.Entry{Keys: []uint64{0x80, 255}, Masks: []uint64{0xF0, 255}, Prio: 1000, Act: 1, Args: []uint64{255}}, []int{8, 8}
}

// another tells one that is not in the way of base's.
func another(kind int) api.Entry {
	e, _ := base(kind)
	e.Keys = slices.Clone(e.Keys)
	e.Keys[0] = 0x40
	return e
}

// Whatever is wrong together, the first is told that the document names; the table's own codes come last; nothing changes.
func TestEntryOrder(t *testing.T) {
	for _, kind := range []int{api.KExact, api.KPrefix, api.KTernary} {
		_, w := base(kind)
		empty, none := wantNew(t, of(kind, 0), w, three()), wantNew(t, of(kind, 1), w, three())
		one := wantNew(t, of(kind, 1), w, three())
		there, _ := base(kind)
		other := another(kind)
		wantCode(t, "one", one.Add(there), 0)
		wantCode(t, "another", none.Add(other), 0)
		all := marks(kind)
		for set := range 1 << len(all) {
			e, _ := base(kind)
			code, place := 0, 0
			for i := len(all) - 1; i >= 0; i-- {
				if set>>i&1 == 1 {
					all[i].do(&e)
					code = all[i].code
					if !all[i].said {
						place = code
					}
				}
			}
			wantCode(t, "Add: there is one", one.Add(e), orElse(code, api.ErrTwice))
			wantCode(t, "Add: full", none.Add(e), orElse(code, api.ErrFull))
			wantCode(t, "Add: no room at all", empty.Add(e), orElse(code, api.ErrFull))
			wantCode(t, "Change: there is one", one.Change(e), code)
			wantCode(t, "Change: there is another", none.Change(e), orElse(code, api.ErrNone))
			wantCode(t, "Drop: there is another", none.Drop(e), orElse(place, api.ErrNone))
			wantCode(t, "Drop: there is one", one.Drop(e), place)
			if place == 0 {
				wantAll(t, one)
				wantCode(t, "again", one.Add(there), 0)
			}
			wantAll(t, one, there)
			wantAll(t, none, other)
			wantAll(t, empty)
		}
	}
}

func orElse(code, other int) int {
	if code != 0 {
		return code
	}
	return other
}

// Each number that a table of the kind has nothing of is none but 0.
func TestForm(t *testing.T) {
	odd := []int{1, -1, 2, 1000, math.MinInt, math.MaxInt}
	for _, kind := range []int{api.KExact, api.KPrefix, api.KTernary} {
		e, w := base(kind)
		s := wantNew(t, of(kind, 4), w, three())
		wantCode(t, "Add", s.Add(e), 0)
		for _, v := range odd {
			x := e
			x.Len = v
			if kind != api.KPrefix {
				wantEach(t, s, x, api.ErrForm)
			}
			x = e
			x.Prio = v
			if kind != api.KTernary {
				wantEach(t, s, x, api.ErrForm)
			}
		}
		for _, masks := range [][]uint64{{0}, {0, 0}, {math.MaxUint64}, make([]uint64, 1000)} {
			x := e
			x.Masks = masks
			if kind != api.KTernary {
				wantEach(t, s, x, api.ErrForm)
			}
		}
		if kind != api.KTernary {
			x := e
			x.Masks = []uint64{}
			wantEach(t, s, x, 0)
		}
		wantAll(t, s, e)
	}
}

// wantEach asks Add, Change and Drop for an entry, which is there if nothing is wrong.
func wantEach(t *testing.T, s *Store, e api.Entry, want int) {
	t.Helper()
	wantCode(t, "Change", s.Change(e), want)
	wantCode(t, "Drop", s.Drop(e), want)
	wantCode(t, "Add", s.Add(e), want)
}

// A table by beginnings tells the codes of chapter 5 behind its own.
func TestBeginnings(t *testing.T) {
	s := wantNew(t, of(api.KPrefix, 3), []int{8}, three())
	for _, e := range []api.Entry{begin(0x80, 0, 0), begin(0x80, -1, 0), begin(0, -1, 0), begin(0, 9, 0), begin(0xC0, 1, 0), begin(0xFF, 7, 0), begin(0, math.MinInt, 0), begin(0, math.MaxInt, 0), begin(256, 8, 0), begin(1<<63, 1, 0)} {
		wantEach(t, s, e, api.ErrWidth)
	}
	wantCode(t, "short", s.Add(begin(0x80, 1, 1, 1)), 0)
	wantCode(t, "long", s.Add(begin(0xC0, 2, 1, 2)), 0)
	wantCode(t, "the same key, longer", s.Add(begin(0x80, 8, 1, 3)), 0)
	wantCode(t, "full", s.Add(begin(0, 0, 0)), api.ErrFull)
	wantCode(t, "twice", s.Add(begin(0x80, 8, 0)), api.ErrTwice)
	wantCode(t, "none", s.Change(begin(0x80, 2, 0)), api.ErrNone)
	wantCode(t, "none", s.Drop(begin(0x80, 2, 0)), api.ErrNone)
	wantAll(t, s, begin(0x80, 1, 1, 1), begin(0x80, 8, 1, 3), begin(0xC0, 2, 1, 2))
	wantFind(t, s, hit(1, 1), true, 0x81)
	wantFind(t, s, hit(1, 3), true, 0x80)
	wantFind(t, s, hit(1, 2), true, 0xFF)
	wantFind(t, s, hit(0), false, 0x7F)
	wantCode(t, "Change", s.Change(begin(0xC0, 2, 2, 1, 2)), 0)
	wantFind(t, s, hit(2, 1, 2), true, 0xC0)
	wantCode(t, "Drop", s.Drop(begin(0xC0, 2, 77, 1, 2, 3)), 0)
	wantFind(t, s, hit(1, 1), true, 0xC0)
	wantCode(t, "all", s.Add(begin(0, 0, 2, 3, 4)), 0)
	wantFind(t, s, hit(2, 3, 4), true, 0)
}

// A table by masks tells the codes of chapter 6 behind its own.
func TestMasks(t *testing.T) {
	s := wantNew(t, of(api.KTernary, 3), []int{8}, three())
	for _, e := range []api.Entry{masked(1, 0, 0, 0), masked(0x18, 0xF0, 0, 0), masked(0, 0, -1, 0), masked(0, 0, 1001, 0), masked(0, 0, math.MinInt, 0), masked(256, 256, 0, 0), masked(256, 255, 0, 0), masked(0, 256, 0, 0), masked(0, math.MaxUint64, 0, 0)} {
		wantEach(t, s, e, api.ErrWidth)
	}
	wantCode(t, "the first", s.Add(masked(0x10, 0xF0, 2, 1, 1)), 0)
	wantCode(t, "the second", s.Add(masked(0x12, 0xFF, 1, 1, 2)), 0)
	wantCode(t, "twice", s.Add(masked(0x12, 0xFF, 1, 0)), api.ErrTwice)
	wantCode(t, "clash", s.Add(masked(0x13, 0xFF, 2, 0)), api.ErrClash)
	wantCode(t, "the third", s.Add(masked(0, 0, 1000, 2, 5, 6)), 0)
	wantCode(t, "clash and full", s.Add(masked(0x13, 0xFF, 2, 0)), api.ErrClash)
	wantCode(t, "full", s.Add(masked(0x20, 0xF0, 2, 0)), api.ErrFull)
	wantCode(t, "none, another Prio", s.Change(masked(0x12, 0xFF, 2, 0)), api.ErrNone)
	wantCode(t, "none, another mask", s.Drop(masked(0x12, 0xFE, 1, 0)), api.ErrNone)
	wantAll(t, s, masked(0x12, 0xFF, 1, 1, 2), masked(0x10, 0xF0, 2, 1, 1), masked(0, 0, 1000, 2, 5, 6))
	wantFind(t, s, hit(1, 2), true, 0x12)
	wantFind(t, s, hit(1, 1), true, 0x13)
	wantFind(t, s, hit(2, 5, 6), true, 0x23)
	// These fit by the bits of masks, and are too wide.
	wantFind(t, s, hit(0), false, 0x112)
	wantFind(t, s, hit(0), false, 1<<63|0x12)
	wantCode(t, "Change", s.Change(masked(0x12, 0xFF, 1, 0)), 0)
	wantFind(t, s, hit(0), true, 0x12)
	wantCode(t, "Drop", s.Drop(masked(0x12, 0xFF, 1, -5, 1, 2, 3)), 0)
	wantFind(t, s, hit(1, 1), true, 0x12)
}

// A table by whole keys tells the codes of chapter 4 behind its own.
func TestWholeKeys(t *testing.T) {
	two := func(a, b uint64, act int, args ...uint64) api.Entry {
		return api.Entry{Keys: []uint64{a, b}, Act: act, Args: args}
	}
	s := wantNew(t, of(api.KExact, 2), []int{1, 48}, three())
	for _, e := range []api.Entry{two(2, 0, 0), two(0, 1<<48, 0), two(1<<63, 0, 0), two(math.MaxUint64, math.MaxUint64, 0)} {
		wantEach(t, s, e, api.ErrWidth)
	}
	for _, e := range []api.Entry{{}, whole1(1, 0), {Keys: []uint64{}}, {Keys: make([]uint64, 3)}, {Keys: make([]uint64, 1000)}, {Keys: []uint64{2}}} {
		wantEach(t, s, e, api.ErrMany)
	}
	wantCode(t, "the first", s.Add(two(1, 1<<48-1, 1, 255)), 0)
	wantCode(t, "the second", s.Add(two(0, 7, 0)), 0)
	wantCode(t, "twice", s.Add(two(0, 7, 0)), api.ErrTwice)
	wantCode(t, "full", s.Add(two(0, 8, 0)), api.ErrFull)
	wantCode(t, "none", s.Change(two(1, 7, 0)), api.ErrNone)
	wantCode(t, "none", s.Drop(two(1, 7, 0)), api.ErrNone)
	wantAll(t, s, two(0, 7, 0), two(1, 1<<48-1, 1, 255))
	wantFind(t, s, hit(1, 255), true, 1, 1<<48-1)
	wantFind(t, s, hit(0), true, 0, 7)
	wantFind(t, s, hit(0), false, 1, 7)
	wantCode(t, "Change", s.Change(two(0, 7, 2, 15, 1<<48-1)), 0)
	wantFind(t, s, hit(2, 15, 1<<48-1), true, 0, 7)
	wantCode(t, "Drop", s.Drop(two(0, 7, 99)), 0)
	wantFind(t, s, hit(0), false, 0, 7)
	wantAll(t, s, two(1, 1<<48-1, 1, 255))
}

// Keys that are not as many, or not as narrow, fit nothing, not even what all keys fit.
func TestFindWrongKeys(t *testing.T) {
	for _, kind := range []int{api.KExact, api.KPrefix, api.KTernary} {
		e, w := base(kind)
		e.Act, e.Args = 0, nil
		if kind == api.KTernary {
			e.Keys, e.Masks = []uint64{0, 0}, []uint64{0, 0}
		}
		if kind == api.KPrefix {
			e.Keys, e.Len = []uint64{0}, 0
		}
		tab := of(kind, 4)
		tab.Def, tab.Args = 1, []uint64{9}
		s := wantNew(t, tab, w, three())
		wantCode(t, "Add", s.Add(e), 0)
		wantFind(t, s, hit(0), true, e.Keys...)
		for many := range 6 {
			if many != len(w) {
				wantFind(t, s, hit(1, 9), false, make([]uint64, many)...)
			}
		}
		wantFind(t, s, hit(1, 9), false, make([]uint64, 1000)...)
		for i := range w {
			for bit := 8; bit < 64; bit++ {
				k := slices.Clone(e.Keys)
				k[i] |= 1 << bit
				wantFind(t, s, hit(1, 9), false, k...)
			}
		}
		wantCode(t, "Default", s.Default(hit(2, 3, 4)), 0)
		wantFind(t, s, hit(2, 3, 4), false)
		wantFind(t, s, hit(0), true, e.Keys...)
	}
}

// Default counts from then on, and not for entries that are there.
func TestDefault(t *testing.T) {
	s := wantNew(t, of(api.KExact, 4), []int{8}, three())
	wantSays(t, s, hit(0))
	wantCode(t, "an entry", s.Add(whole1(5, 1, 6)), 0)
	for _, h := range []api.Hit{hit(1, 7), hit(2, 1, 2), hit(0), hit(1, 0)} {
		wantCode(t, "Default", s.Default(h), 0)
		for _, wrong := range []saidCase{{hit(3), api.ErrKind}, {hit(-1), api.ErrKind}, {hit(1), api.ErrMany}, {hit(0, 0), api.ErrMany}, {hit(1, 256), api.ErrWidth}, {hit(2, 1, 1<<48), api.ErrWidth}} {
			wantCode(t, "a wrong one", s.Default(wrong.h), wrong.want)
		}
		wantSays(t, s, h)
		wantFind(t, s, h, false, 4)
		wantFind(t, s, hit(1, 6), true, 5)
		wantAll(t, s, whole1(5, 1, 6))
	}
}

// As many entries as Cap says, and not one more.
func TestCap(t *testing.T) {
	for _, kind := range []int{api.KExact, api.KPrefix, api.KTernary} {
		for most := range 17 {
			s := wantNew(t, of(kind, most), []int{8}, three())
			for i := range 20 {
				e := whole1(uint64(i), 0)
				if kind == api.KPrefix {
					e.Len = 8
				}
				if kind == api.KTernary {
					e.Masks = []uint64{255}
				}
				want := 0
				if i >= most {
					want = api.ErrFull
				}
				wantCode(t, "Add", s.Add(e), want)
				if s.Len() != min(i+1, most) {
					t.Fatalf("Len: %d", s.Len())
				}
			}
		}
	}
}

// An action may stand there twice; it says the same.
func TestActsTwice(t *testing.T) {
	tab := api.Table{Kind: api.KExact, Acts: []int{1, 1, 0, 0}, Cap: 4}
	s := wantNew(t, tab, []int{8}, three())
	wantCode(t, "one", s.Add(whole1(1, 1, 8)), 0)
	wantCode(t, "none of them", s.Add(whole1(2, 2, 0, 0)), api.ErrKind)
	wantFind(t, s, hit(1, 8), true, 1)
}

// What is handed in is neither changed nor kept, nor what lies behind its length.
func TestNotKept(t *testing.T) {
	for _, kind := range []int{api.KExact, api.KPrefix, api.KTernary} {
		e, w := base(kind)
		acts, tab := three(), of(kind, 4)
		tab.Def, tab.Args = 1, []uint64{9}
		s := wantNew(t, tab, w, acts)
		if !reflect.DeepEqual(acts, three()) || !slices.Equal(tab.Acts, []int{0, 1, 2}) || !slices.Equal(tab.Args, []uint64{9}) {
			t.Fatal("New changed what it was given")
		}
		tab.Acts[1], tab.Args[0], acts[1].W[0], acts[0].W = 0, 99, 1, []int{1}
		for i := range w {
			w[i] = 1
		}
		wantSays(t, s, hit(1, 9))
		put := kept(e)
		wantCode(t, "Add", s.Add(put), 0)
		spoil(t, put, e)
		wantAll(t, s, e)
		put = kept(e)
		put.Args[0] = 77
		changed := kept(put)
		wantCode(t, "Change", s.Change(put), 0)
		spoil(t, put, changed)
		wantAll(t, s, changed)
		h := hit(1, 200)
		wantCode(t, "Default", s.Default(h), 0)
		h.Args[0] = 1
		wantSays(t, s, hit(1, 200))
		k := slices.Clone(e.Keys)
		wantFind(t, s, hit(1, 77), true, k...)
		if !slices.Equal(k, e.Keys) {
			t.Fatal("Find changed the keys")
		}
		put = kept(e)
		wantCode(t, "Drop", s.Drop(put), 0)
		spoil(t, put, e)
	}
}

// spoil sees whether an entry is still as it was, and writes over all of it.
func spoil(t *testing.T, e, was api.Entry) {
	t.Helper()
	if !sameEntry(e, was) {
		t.Fatalf("changed: %v, was %v", e, was)
	}
	for _, l := range [][]uint64{e.Keys, e.Masks, e.Args} {
		for i := range l {
			l[i] = math.MaxUint64
		}
	}
}

// behind tells a list with other numbers behind its length.
func behind(l []uint64) []uint64 {
	return append(slices.Clone(l), 251, 252, 253)[:len(l)]
}

func TestBehindTheLength(t *testing.T) {
	for _, kind := range []int{api.KExact, api.KPrefix, api.KTernary} {
		e, w := base(kind)
		tab := of(kind, 1)
		tab.Def, tab.Args, tab.Acts = 1, behind([]uint64{9}), []int{0, 1, 2, -7, -7}[:3]
		s := wantNew(t, tab, append(slices.Clone(w), -7, -7)[:len(w)], append(three(), api.Action{})[:3])
		lists := []api.Entry{e, e, e, e}
		for i := range lists {
			lists[i].Keys, lists[i].Args = behind(e.Keys), behind(e.Args)
			lists[i].Masks = behind(e.Masks)
		}
		wantCode(t, "Add", s.Add(lists[0]), 0)
		wantCode(t, "Change", s.Change(lists[1]), 0)
		wantAll(t, s, e)
		wantFind(t, s, hit(1, 255), true, lists[2].Keys...)
		wantCode(t, "Drop", s.Drop(lists[2]), 0)
		wantCode(t, "Default", s.Default(api.Hit{Act: 1, Args: lists[3].Args}), 0)
		wantSays(t, s, hit(1, 255))
		for _, x := range lists {
			for _, l := range [][]uint64{x.Keys, x.Masks, x.Args} {
				if !slices.Equal(l[len(l):len(l)+3], []uint64{251, 252, 253}) {
					t.Fatal("written behind the length")
				}
			}
		}
		if !slices.Equal(tab.Acts[:5], []int{0, 1, 2, -7, -7}) || !slices.Equal(tab.Args[:4], []uint64{9, 251, 252, 253}) {
			t.Fatal("New wrote behind the length")
		}
	}
}

// What is answered is new memory: writing over it changes nothing, nor what was answered ahead.
func TestNewMemory(t *testing.T) {
	for _, kind := range []int{api.KExact, api.KPrefix, api.KTernary} {
		e, w := base(kind)
		tab := of(kind, 4)
		tab.Def, tab.Args = 1, []uint64{9}
		s := wantNew(t, tab, w, three())
		wantCode(t, "Add", s.Add(e), 0)
		wantCode(t, "another", s.Add(another(kind)), 0)
		first := s.All()
		for _, x := range s.All() {
			spoil(t, x, x)
		}
		found, _ := s.Find(e.Keys)
		found.Args[0] = 1
		none, _ := s.Find(nil)
		none.Args[0] = 2
		says := s.Says()
		says.Args[0] = 3
		says = s.Says()
		none, _ = s.Find(nil)
		none.Args[0] = 4
		if says.Args[0] != 9 {
			t.Fatal("two answers share a list")
		}
		wantAll(t, s, another(kind), e)
		if !slices.EqualFunc(first, s.All(), sameEntry) {
			t.Fatal("an answer changed behind its call")
		}
		wantFind(t, s, hit(1, 255), true, e.Keys...)
		wantSays(t, s, hit(1, 9))
		wantFind(t, s, hit(1, 9), false)
	}
}

// Stores know nothing of each other, though they were made of the same.
func TestStoresApart(t *testing.T) {
	for _, kind := range []int{api.KExact, api.KPrefix, api.KTernary} {
		e, w := base(kind)
		tab, acts := of(kind, 1), three()
		a, b := wantNew(t, tab, w, acts), wantNew(t, tab, w, acts)
		wantCode(t, "Add", a.Add(e), 0)
		wantCode(t, "Default", a.Default(hit(1, 3)), 0)
		wantAll(t, b)
		wantSays(t, b, hit(0))
		wantFind(t, b, hit(0), false, e.Keys...)
		wantCode(t, "Add", b.Add(another(kind)), 0)
		wantAll(t, a, e)
		wantFind(t, a, hit(1, 3), false, another(kind).Keys...)
	}
}
