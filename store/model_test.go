package store

import (
	"math/rand"
	"slices"
	"strconv"
	"strings"
	"testing"

	"shuntyard/api"
)

// The tests hold a store against a plain list of entries of whatever kind, each with a text of 0, 1 and * (a bit that does not count): it shares no table, no search and no reckoning with bits with the package.

type plain struct {
	tab    api.Table
	widths []int
	acts   []api.Action
	list   []row
	says   api.Hit
}

type row struct {
	e           api.Entry
	text, order string
}

func newPlain(tab api.Table, w []int, acts []api.Action) *plain {
	return &plain{tab: tab, widths: w, acts: acts, says: api.Hit{Act: tab.Def, Args: slices.Clone(tab.Args)}}
}

// digits tells the numbers in as many digits as their widths; false, if one needs more.
func digits(l []uint64, w []int) (string, bool) {
	out := ""
	for i, v := range l {
		d := strings.TrimLeft(strconv.FormatUint(v, 2), "0")
		if len(d) > w[i] {
			return "", false
		}
		out += strings.Repeat("0", w[i]-len(d)) + d
	}
	return out, true
}

// unsaid tells the code of what may not be said.
func (p *plain) unsaid(act int, args []uint64) int {
	if !slices.Contains(p.tab.Acts, act) {
		return api.ErrKind
	}
	if len(p.acts[act].W) != len(args) {
		return api.ErrMany
	}
	if _, ok := digits(args, p.acts[act].W); !ok {
		return api.ErrWidth
	}
	return 0
}

// row tells an entry with its text, and what goes on by rising; or the code of why it can't be one.
func (p *plain) row(e api.Entry, said bool) (row, int) {
	masked := p.tab.Kind == api.KTernary
	if len(e.Keys) != len(p.widths) || masked && len(e.Masks) != len(p.widths) {
		return row{}, api.ErrMany
	}
	if masked && e.Len != 0 || p.tab.Kind == api.KExact && (e.Len != 0 || e.Prio != 0 || len(e.Masks) > 0) || p.tab.Kind == api.KPrefix && (e.Prio != 0 || len(e.Masks) > 0) {
		return row{}, api.ErrForm
	}
	keys, narrow := digits(e.Keys, p.widths)
	masks, narrowToo := digits(e.Masks, p.widths)
	if !narrow || !narrowToo {
		return row{}, api.ErrWidth
	}
	if code := p.unsaid(e.Act, e.Args); said && code != 0 {
		return row{}, code
	}
	r := row{e: kept(e), text: keys, order: keys}
	switch p.tab.Kind {
	case api.KPrefix:
		if e.Len < 0 || e.Len > len(keys) {
			return row{}, api.ErrWidth
		}
		masks = strings.Repeat("1", e.Len) + strings.Repeat("0", len(keys)-e.Len)
		r.order = keys + masks
	case api.KTernary:
		if e.Prio < 0 || e.Prio > 1000 {
			return row{}, api.ErrWidth
		}
		r.order = strconv.Itoa(10000+e.Prio) + keys + masks
	case api.KExact:
		return r, 0
	}
	text := []byte(keys)
	for i := range text {
		if masks[i] == '0' && text[i] == '1' {
			return row{}, api.ErrWidth
		}
		if masks[i] == '0' {
			text[i] = '*'
		}
	}
	r.text = string(text)
	return r, 0
}

// alike asks whether two texts have the same at each place where neither has a *.
func alike(a, b string) bool {
	for i := range len(a) {
		if a[i] != '*' && b[i] != '*' && a[i] != b[i] {
			return false
		}
	}
	return true
}

func (p *plain) place(r row) int {
	return slices.IndexFunc(p.list, func(x row) bool { return x.order == r.order })
}

func (p *plain) add(e api.Entry) int {
	r, code := p.row(e, true)
	if code != 0 {
		return code
	}
	if p.place(r) >= 0 {
		return api.ErrTwice
	}
	for _, x := range p.list {
		if p.tab.Kind == api.KTernary && x.e.Prio == e.Prio && alike(x.text, r.text) {
			return api.ErrClash
		}
	}
	if len(p.list) >= p.tab.Cap {
		return api.ErrFull
	}
	p.list = append(p.list, r)
	return 0
}

func (p *plain) change(e api.Entry) int {
	r, code := p.row(e, true)
	if code != 0 {
		return code
	}
	at := p.place(r)
	if at < 0 {
		return api.ErrNone
	}
	p.list[at] = r
	return 0
}

func (p *plain) drop(e api.Entry) int {
	r, code := p.row(e, false)
	if code != 0 {
		return code
	}
	at := p.place(r)
	if at < 0 {
		return api.ErrNone
	}
	p.list = slices.Delete(p.list, at, at+1)
	return 0
}

func (p *plain) set(h api.Hit) int {
	code := p.unsaid(h.Act, h.Args)
	if code == 0 {
		p.says = api.Hit{Act: h.Act, Args: slices.Clone(h.Args)}
	}
	return code
}

func (p *plain) find(k []uint64) (api.Hit, bool) {
	best := -1
	if len(k) == len(p.widths) {
		text, ok := digits(k, p.widths)
		for i, x := range p.list {
			if ok && alike(x.text, text) && (best < 0 || x.e.Len > p.list[best].e.Len || x.e.Prio < p.list[best].e.Prio) {
				best = i
			}
		}
	}
	if best < 0 {
		return p.says, false
	}
	return api.Hit{Act: p.list[best].e.Act, Args: p.list[best].e.Args}, true
}

func (p *plain) all() []api.Entry {
	rows := slices.Clone(p.list)
	slices.SortFunc(rows, func(a, b row) int { return strings.Compare(a.order, b.order) })
	var out []api.Entry
	for _, r := range rows {
		out = append(out, r.e)
	}
	return out
}

func kept(e api.Entry) api.Entry {
	e.Keys, e.Masks, e.Args = slices.Clone(e.Keys), slices.Clone(e.Masks), slices.Clone(e.Args)
	return e
}

// chance tells tables, entries and hits by chance, most of which have nothing wrong.
type chance struct{ *rand.Rand }

func (c chance) actions() []api.Action {
	acts := make([]api.Action, 1+c.Intn(6))
	for i := range acts {
		for range c.Intn(4) {
			acts[i].W = append(acts[i].W, 1+c.Intn(48))
		}
	}
	return acts
}

func (c chance) numbers(w []int) []uint64 {
	out := make([]uint64, 0, len(w))
	for _, width := range w {
		v := c.Uint64() >> (64 - width)
		if c.Intn(60) == 0 {
			v |= 1 << width
		}
		out = append(out, v)
	}
	if c.Intn(60) == 0 {
		out = append(out, 0)
	}
	if len(out) > 0 && c.Intn(60) == 0 {
		out = out[1:]
	}
	return out
}

func (c chance) hit(p *plain) api.Hit {
	act := p.tab.Acts[c.Intn(len(p.tab.Acts))]
	h := api.Hit{Act: act, Args: c.numbers(p.acts[act].W)}
	if c.Intn(30) == 0 {
		h.Act = c.Intn(10) - 2
	}
	return h
}

func (c chance) entry(p *plain) api.Entry {
	h := c.hit(p)
	e := api.Entry{Keys: c.numbers(p.widths), Act: h.Act, Args: h.Args}
	if p.tab.Kind == api.KPrefix || c.Intn(60) == 0 {
		e.Len = c.Intn(p.widths[0]+1) + c.Intn(60)/59 - c.Intn(60)/59
		if len(e.Keys) == 1 && e.Keys[0]>>p.widths[0] == 0 && c.Intn(20) > 0 {
			free := p.widths[0] - max(e.Len, 0)
			e.Keys[0] = e.Keys[0] >> max(free, 0) << max(free, 0)
		}
	}
	if p.tab.Kind == api.KTernary || c.Intn(60) == 0 {
		e.Masks, e.Prio = c.numbers(p.widths), c.Intn(5)+c.Intn(60)/59*998-c.Intn(60)/59*3
		if c.Intn(20) > 0 {
			for i := range min(len(e.Keys), len(e.Masks), len(p.widths)) {
				e.Keys[i] &= e.Masks[i] | ^uint64(0)<<p.widths[i]
			}
		}
	}
	return e
}

func (c chance) plain(kind, widest int) *plain {
	acts := c.actions()
	tab := api.Table{Kind: kind, Cap: c.Intn(17)}
	for range 1 + c.Intn(4) {
		tab.Acts = append(tab.Acts, c.Intn(len(acts)))
	}
	w := []int{1 + c.Intn(widest)}
	for kind != api.KPrefix && len(w) < 3 && c.Intn(2) == 0 {
		w = append(w, 1+c.Intn(widest))
	}
	tab.Def = tab.Acts[c.Intn(len(tab.Acts))]
	tab.Args = make([]uint64, len(acts[tab.Def].W))
	return newPlain(tab, w, acts)
}

// What a store tells is what the plain list tells, whatever was asked of it ahead; each code is told, and nothing changes with one.
func TestLikeAPlainList(t *testing.T) {
	told := map[string]int{}
	c := chance{rand.New(rand.NewSource(7))}
	for round := range 900 {
		kind := []int{api.KExact, api.KPrefix, api.KTernary}[round%3]
		p := c.plain(kind, []int{2, 3, 8, 48}[round%4])
		s := wantNew(t, p.tab, p.widths, p.acts)
		for range 60 {
			e := c.entry(p)
			if len(p.list) > 0 && c.Intn(2) == 0 {
				old := p.list[c.Intn(len(p.list))].e
				e.Keys, e.Masks, e.Len, e.Prio = slices.Clone(old.Keys), slices.Clone(old.Masks), old.Len, old.Prio
			}
			switch c.Intn(6) {
			case 0, 1, 2:
				want := p.add(e)
				told["add "+strconv.Itoa(want)]++
				wantCode(t, "Add", s.Add(e), want)
			case 3:
				want := p.change(e)
				told["change "+strconv.Itoa(want)]++
				wantCode(t, "Change", s.Change(e), want)
			case 4:
				want := p.drop(e)
				told["drop "+strconv.Itoa(want)]++
				wantCode(t, "Drop", s.Drop(e), want)
			case 5:
				h := c.hit(p)
				want := p.set(h)
				told["default "+strconv.Itoa(want)]++
				wantCode(t, "Default", s.Default(h), want)
			}
			wantAll(t, s, p.all()...)
			wantSays(t, s, p.says)
			for range 4 {
				k := c.numbers(p.widths)
				h, ok := p.find(k)
				told["find "+strconv.FormatBool(ok)]++
				wantFind(t, s, h, ok, k...)
			}
		}
		if s.Keys() != len(p.widths) {
			t.Fatalf("Keys: %d, want %d", s.Keys(), len(p.widths))
		}
	}
	for _, what := range []string{"add 0", "add 2", "add 4", "add 5", "add 6", "add 7", "add 8", "add 10", "change 0", "change 2", "change 4", "change 5", "change 6", "change 9", "drop 0", "drop 2", "drop 4", "drop 6", "drop 9", "default 0", "default 2", "default 5", "default 6", "find true", "find false"} {
		if told[what] < 20 {
			t.Errorf("%s came about %d times: %v", what, told[what], told)
		}
	}
}
