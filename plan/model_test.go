package plan

import (
	"math"
	"math/rand"
	"reflect"
	"slices"
	"strings"
	"testing"

	"shuntyard/api"
)

// The model writes down all that is wrong with a plan, in the document's order, and tells the first. It knows fields by a map of their names, and works expressions off on a stack of texts.

type book struct {
	fields map[api.Ref]int
	list   []api.Fault
}

func (b *book) note(bad bool, code, at int) bool {
	if bad {
		b.list = append(b.list, fault(code, at))
	}
	return bad
}

// named tells each field by its name, and how many bits it has.
func named(p api.Plan, args []int) map[api.Ref]int {
	m := map[api.Ref]int{{H: api.InPort, F: 0}: 16}
	lists := map[int][]int{api.InMeta: p.Meta, api.InArg: args}
	for n, h := range p.Heads {
		lists[n] = h.W
	}
	for h, l := range lists {
		for f, w := range l {
			m[api.Ref{H: h, F: f}] = w
		}
	}
	return m
}

func modelCheck(p api.Plan) api.Fault {
	b := &book{}
	// Where there are too many of something, nothing behind that is told: the model need not go on.
	for _, part := range []func(*book, api.Plan) bool{headers, beside, states, actions, tables, nodes, out} {
		if part(b, p) {
			break
		}
	}
	if len(b.list) == 0 {
		return right
	}
	return b.list[0]
}

func headers(b *book, p api.Plan) bool {
	if b.note(len(p.Heads) > 6, api.ErrMany, -1) {
		return true
	}
	for n, h := range p.Heads {
		b.note(len(h.W) == 0 || len(h.W) > 8, api.ErrMany, 1000+n)
		total, wide := uint64(0), false
		for _, w := range h.W {
			wide = wide || w <= 0 || w >= 49
			total += uint64(w)
		}
		b.note(wide || total%8 > 0 || total > 256, api.ErrWidth, 1000+n)
	}
	return len(b.list) > 0
}

func beside(b *book, p api.Plan) bool {
	b.note(len(p.Meta) > 4, api.ErrMany, -2)
	for n, w := range p.Meta {
		b.note(w <= 0 || w >= 49, api.ErrWidth, 2000+n)
	}
	return len(b.list) > 0
}

func states(b *book, p api.Plan) bool {
	b.note(len(p.States) == 0 || len(p.States) > 8, api.ErrMany, -3)
	fields := named(p, nil)
	for n, s := range p.States {
		at := 3000 + n
		leads := func(to int) {
			if to != 1000 && to != 1001 {
				b.note(to < 0 || to >= len(p.States), api.ErrRange, at)
				b.note(to <= n, api.ErrRound, at)
			}
		}
		b.note(s.Head < -1 || s.Head >= len(p.Heads), api.ErrRange, at)
		b.note(len(s.Cases) > 4, api.ErrMany, at)
		w, ok := fields[s.On]
		b.note(len(s.Cases) > 0 && !ok, api.ErrRange, at)
		for _, c := range s.Cases {
			b.note(c.Mask >= uint64(1)<<w || c.Value|c.Mask != c.Mask, api.ErrWidth, at)
			leads(c.To)
		}
		leads(s.Else)
	}
	return len(b.list) > 0
}

func actions(b *book, p api.Plan) bool {
	b.note(len(p.Acts) > 8, api.ErrMany, -4)
	heads := func(n int) bool { return n < 0 || n >= len(p.Heads) }
	for n, a := range p.Acts {
		at := 4000 + n
		b.note(len(a.W) > 3 || len(a.Ops) > 5, api.ErrMany, at)
		for _, w := range a.W {
			b.note(w <= 0 || w >= 49, api.ErrWidth, at)
		}
		all := named(p, a.W)
		target := func(r api.Ref) bool { return r.H < -1 || all[r] == 0 }
		for _, o := range a.Ops {
			b.note((o.Kind == 1 || o.Kind == 6) && target(o.R), api.ErrRange, at)
			b.note((o.Kind == 2 || o.Kind == 3 || o.Kind == 6) && heads(o.Head), api.ErrRange, at)
			if o.Kind == 1 || o.Kind == 5 {
				expression(b, o.E, all, at)
			}
			b.note(o.Kind < 1 || o.Kind > 6, api.ErrKind, at)
		}
	}
	return len(b.list) > 0
}

// expression works off the steps by how many numbers each takes, which stands in a text by kinds.
func expression(b *book, e []api.Push, fields map[api.Ref]int, at int) {
	if b.note(len(e) > 8, api.ErrMany, at) {
		return
	}
	stack := ""
	for _, s := range e {
		if b.note(s.Op < 1 || s.Op > 13, api.ErrTree, at) {
			return
		}
		takes := strings.Repeat("x", int("-0022222222221"[s.Op]-'0'))
		rest, ok := strings.CutSuffix(stack, takes)
		if b.note(!ok, api.ErrTree, at) {
			return
		}
		_, ok = fields[s.R]
		b.note(s.Op == 2 && !ok, api.ErrRange, at)
		stack = rest + "x"
	}
	b.note(stack != "x", api.ErrTree, at)
}

func tables(b *book, p api.Plan) bool {
	b.note(len(p.Tabs) > 5, api.ErrMany, -5)
	fields := named(p, nil)
	for n, t := range p.Tabs {
		at := 5000 + n
		b.note(len(t.Keys) > 3, api.ErrMany, at)
		for _, k := range t.Keys {
			b.note(fields[k] == 0, api.ErrRange, at)
		}
		b.note(t.Kind < 1 || t.Kind > 3, api.ErrKind, at)
		b.note(len(t.Keys) == 0 || t.Kind == 2 && len(t.Keys) != 1, api.ErrMany, at)
		b.note(len(t.Acts) == 0 || len(t.Acts) > 4, api.ErrMany, at)
		b.note(t.Cap < 0 || t.Cap > 16, api.ErrRange, at)
		for _, a := range t.Acts {
			b.note(a < 0 || a >= len(p.Acts), api.ErrRange, at)
		}
		if b.note(!slices.Contains(t.Acts, t.Def), api.ErrKind, at) || t.Def < 0 || t.Def >= len(p.Acts) {
			continue
		}
		w := p.Acts[t.Def].W
		if b.note(len(t.Args) != len(w), api.ErrMany, at) {
			continue
		}
		for i, v := range t.Args {
			b.note(v >= uint64(1)<<w[i], api.ErrWidth, at)
		}
	}
	return len(b.list) > 0
}

func nodes(b *book, p api.Plan) bool {
	b.note(len(p.Nodes) > 10, api.ErrMany, -6)
	for n, x := range p.Nodes {
		at := 6000 + n
		many := map[int]int{1: len(p.Tabs), 2: len(p.Acts), 4: len(p.Heads)}
		if most, ok := many[x.Kind]; ok {
			wrong := b.note(x.N < 0 || x.N >= most, api.ErrRange, at)
			b.note(!wrong && x.Kind == 2 && len(p.Acts[x.N].W) != 0, api.ErrMany, at)
		} else if !b.note(x.Kind != 3, api.ErrKind, at) {
			expression(b, x.E, named(p, nil), at)
		}
		ways := []int{x.Yes, x.No}
		if x.Kind < 3 {
			ways = ways[:1]
		}
		for _, to := range ways {
			b.note(to < 0 || to > len(p.Nodes), api.ErrRange, at)
			b.note(to <= n, api.ErrRound, at)
		}
	}
	return len(b.list) > 0
}

func out(b *book, p api.Plan) bool {
	b.note(len(p.Out) > 6, api.ErrMany, -7)
	seen := map[int]int{}
	for n, h := range p.Out {
		b.note(h < 0 || h >= len(p.Heads), api.ErrRange, 7000+n)
		b.note(seen[h] > 0, api.ErrTwice, 7000+n)
		seen[h]++
	}
	return len(b.list) > 0
}

// spots tells every number and every list of a plan, wherever it stands.
func spots(v reflect.Value) []reflect.Value {
	switch v.Kind() {
	case reflect.Struct:
		var l []reflect.Value
		for i := range v.NumField() {
			l = append(l, spots(v.Field(i))...)
		}
		return l
	case reflect.Slice:
		l := []reflect.Value{v}
		for i := range v.Len() {
			l = append(l, spots(v.Index(i))...)
		}
		return l
	}
	return []reflect.Value{v}
}

// upset changes one number or one list.
func upset(r *rand.Rand, v reflect.Value) {
	switch v.Kind() {
	case reflect.Int:
		edges := []int{math.MinInt, -4, -3, -2, -1, 0, 1, 2, 3, 4, 5, 6, 7, 8, 13, 14, 16, 17, 48, 49, 1000, 1001, 1002, math.MaxInt}
		v.SetInt(int64(edges[r.Intn(len(edges))]))
		if r.Intn(8) == 0 {
			v.SetInt(v.Int() + int64(r.Intn(3)) - 1)
		}
	case reflect.Uint64:
		v.SetUint([]uint64{0, 1, v.Uint() + 1, v.Uint() << 1, 1 << r.Intn(64), r.Uint64(), math.MaxUint64}[r.Intn(7)])
	case reflect.Slice:
		stretch(r, v)
	}
}

// stretch makes a list longer or shorter by one, or as long as it comes, of elements like its own.
func stretch(r *rand.Rand, v reflect.Value) {
	n := []int{max(0, v.Len()-1), v.Len() + 1, r.Intn(12)}[r.Intn(3)]
	l := reflect.MakeSlice(v.Type(), n, n)
	for i := range n {
		if i < v.Len() {
			l.Index(i).Set(v.Index(i))
		} else if v.Len() > 0 && r.Intn(4) > 0 {
			l.Index(i).Set(deep(v.Index(r.Intn(v.Len()))))
		}
	}
	v.Set(l)
}

// deep tells the same in memory of its own, whatever it is.
func deep(v reflect.Value) reflect.Value {
	out := reflect.New(v.Type()).Elem()
	switch v.Kind() {
	case reflect.Struct:
		for i := range v.NumField() {
			out.Field(i).Set(deep(v.Field(i)))
		}
	case reflect.Slice:
		// A list without elements is the same, nil or empty: here it becomes nil.
		for i := range v.Len() {
			out = reflect.Append(out, deep(v.Index(i)))
		}
	default:
		out.Set(v)
	}
	return out
}

// plain tells a plan like p, whose lists without elements are nil.
func plain(p api.Plan) api.Plan {
	return deep(reflect.ValueOf(p)).Interface().(api.Plan)
}

// somePlan tells a plan with up to so many things upset.
func somePlan(r *rand.Rand, most int) api.Plan {
	p := full()
	if r.Intn(8) == 0 {
		p = least()
	}
	for range r.Intn(most + 1) {
		l := spots(reflect.ValueOf(&p).Elem())
		upset(r, l[r.Intn(len(l))])
	}
	return p
}

func TestCheckAgainstModel(t *testing.T) {
	r := rand.New(rand.NewSource(23))
	seen := map[api.Fault]int{}
	for i := range 40000 {
		p := somePlan(r, 3)
		var before api.Plan
		if i%10 == 0 { // it takes long
			before = plain(p)
		}
		got, want := Check(p), modelCheck(p)
		if got != want {
			t.Fatalf("%v, want %v: %+v", got, want, p)
		}
		if again := Check(p); again != got {
			t.Fatalf("%v, then %v: %+v", got, again, p)
		}
		if i%10 == 0 && !reflect.DeepEqual(plain(p), before) {
			t.Fatalf("the plan was changed: %+v, then %+v", before, p)
		}
		seen[part1000(got)]++
	}
	for _, f := range []api.Fault{
		right,
		fault(api.ErrMany, -1), fault(api.ErrMany, 1), fault(api.ErrWidth, 1),
		fault(api.ErrMany, -2), fault(api.ErrWidth, 2),
		fault(api.ErrMany, -3), fault(api.ErrRange, 3), fault(api.ErrMany, 3), fault(api.ErrWidth, 3), fault(api.ErrRound, 3),
		fault(api.ErrMany, -4), fault(api.ErrRange, 4), fault(api.ErrMany, 4), fault(api.ErrWidth, 4), fault(api.ErrTree, 4), fault(api.ErrKind, 4),
		fault(api.ErrMany, -5), fault(api.ErrRange, 5), fault(api.ErrMany, 5), fault(api.ErrWidth, 5), fault(api.ErrKind, 5),
		fault(api.ErrMany, -6), fault(api.ErrRange, 6), fault(api.ErrMany, 6), fault(api.ErrTree, 6), fault(api.ErrKind, 6), fault(api.ErrRound, 6),
		fault(api.ErrMany, -7), fault(api.ErrRange, 7), fault(api.ErrTwice, 7),
	} {
		if seen[f] < 10 {
			t.Errorf("%v came about %d times: too few", f, seen[f])
		}
	}
}

// part1000 tells a fault with the part that it is in, not the number there.
func part1000(f api.Fault) api.Fault {
	if f.At > 0 {
		f.At /= 1000
	}
	return f
}

func TestWidthAgainstModel(t *testing.T) {
	r := rand.New(rand.NewSource(2))
	for range 3000 {
		p := somePlan(r, 3)
		args := make([]int, r.Intn(4))
		for i := range args {
			args[i] = r.Intn(60) - 5
		}
		with, without := named(p, args), named(p, nil)
		var keys []api.Ref
		var want []int
		for h := -5; h < 8; h++ {
			for f := -2; f < 10; f++ {
				if got := Width(p, ref(h, f), args); got != with[ref(h, f)] {
					t.Fatalf("%d, %d: %d, want %d: %+v", h, f, got, with[ref(h, f)], p)
				}
				keys, want = append(keys, ref(h, f)), append(want, without[ref(h, f)])
			}
		}
		if got := Widths(p, api.Table{Keys: keys}); !slices.Equal(got, want) {
			t.Fatalf("%v, want %v: %+v", got, want, p)
		}
	}
}

// span is where a list lies in memory, with what lies behind its length.
type span struct{ from, to uintptr }

// spans tells where all lists of a plan lie that have room for anything.
func spans(p *api.Plan) []span {
	var l []span
	for _, v := range spots(reflect.ValueOf(p).Elem()) {
		if v.Kind() == reflect.Slice && v.Cap() > 0 {
			l = append(l, span{v.Pointer(), v.Pointer() + uintptr(v.Cap())*v.Type().Elem().Size()})
		}
	}
	return l
}

// apart asks whether no list of l lies where another one of l does, or one of others.
func apart(l, others []span) bool {
	for i, a := range l {
		for _, b := range append(slices.Clone(others), l[i+1:]...) {
			if a.from < b.to && b.from < a.to {
				return false
			}
		}
	}
	return true
}

func TestOwn(t *testing.T) {
	r := rand.New(rand.NewSource(5))
	for range 3000 {
		p := somePlan(r, 6)
		before := plain(p)
		q := Own(p)
		if !reflect.DeepEqual(plain(q), before) {
			t.Fatalf("%+v, want %+v", q, before)
		}
		if !apart(spans(&q), spans(&p)) {
			t.Fatalf("memory is shared: %+v", p)
		}
		for _, v := range spots(reflect.ValueOf(&q).Elem()) {
			upset(r, v)
		}
		if !reflect.DeepEqual(plain(p), before) {
			t.Fatalf("the plan was changed: %+v, want %+v", p, before)
		}
	}
	if q := Own(api.Plan{}); !reflect.DeepEqual(plain(q), api.Plan{}) {
		t.Errorf("nothing: %+v", q)
	}
}

// Lists that share memory in what comes in are apart in what is answered.
func TestOwnOfSharedLists(t *testing.T) {
	numbers, e := []int{8, 8, 8}, tree(num(1))
	o := []api.Op{{Kind: api.OPort, E: e}}
	p := api.Plan{
		Heads: []api.Header{{W: numbers}, {W: numbers[1:]}},
		Meta:  numbers,
		Acts:  []api.Action{{W: numbers[:1], Ops: o}, {W: numbers, Ops: o}},
		Nodes: []api.Node{{Kind: api.NIf, E: e}, {Kind: api.NIf, E: e}},
		Out:   numbers[:2],
	}
	q := Own(p)
	if !reflect.DeepEqual(plain(q), plain(p)) {
		t.Fatalf("%+v, want %+v", q, p)
	}
	if !apart(spans(&q), spans(&p)) {
		t.Error("memory is shared")
	}
}

// What lies behind a list's length is not read, nor written.
func TestBehindTheLength(t *testing.T) {
	p := full()
	var behind []reflect.Value
	// From within: a list that is copied takes along what was done to those that stand in it.
	for _, v := range slices.Backward(spots(reflect.ValueOf(&p).Elem())) {
		if v.Kind() != reflect.Slice {
			continue
		}
		n := v.Len()
		l := reflect.MakeSlice(v.Type(), n+3, n+3)
		reflect.Copy(l, v)
		for i := range 3 {
			for _, x := range spots(l.Index(n + i)) {
				if x.Kind() == reflect.Int {
					x.SetInt(-77)
				}
			}
			behind = append(behind, l.Index(n+i))
		}
		v.Set(l.Slice(0, n))
	}
	var before []any
	for _, v := range behind {
		before = append(before, deep(v).Interface())
	}
	if got := Check(p); got != right {
		t.Errorf("Check: %v", got)
	}
	if got := Width(p, ref(0, 1), p.Acts[1].W); got != 0 {
		t.Errorf("Width of a header's: %d", got)
	}
	if got := Width(p, ref(api.InArg, 2), p.Acts[1].W); got != 0 {
		t.Errorf("Width of a parameter's: %d", got)
	}
	if got := Width(p, ref(api.InMeta, 2), nil); got != 0 {
		t.Errorf("Width of Meta's: %d", got)
	}
	if got := Widths(p, p.Tabs[0]); !slices.Equal(got, []int{8, 4}) {
		t.Errorf("Widths: %v", got)
	}
	if got := Own(p); !reflect.DeepEqual(plain(got), plain(full())) {
		t.Errorf("Own: %+v", got)
	}
	for i, v := range behind {
		if got := deep(v).Interface(); !reflect.DeepEqual(got, before[i]) {
			t.Errorf("behind a list: %v, want %v", got, before[i])
		}
	}
}
