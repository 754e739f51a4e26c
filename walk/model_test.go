package walk

import (
	"math"
	"math/rand"
	"reflect"
	"slices"
	"testing"

	"shuntyard/api"
	"shuntyard/plan"
)

// The model writes down every way of a parser, from the state 0 on, state by state, and counts what was taken on each of them by itself.

// way is the places that a way comes to, the last being where it stands now; the place behind all states is Accept.
type way []int

// allWays tells every way that leads to a place, a place at a time. What two cases have in common is one way.
func allWays(p api.Plan) map[int][]way {
	ways := map[int][]way{0: {{0}}}
	for n, s := range p.States {
		next := map[int]int{s.Else: 1}
		for _, c := range s.Cases {
			next[c.To] = 1
		}
		delete(next, 1001)
		for to := range next {
			if to == 1000 {
				to = len(p.States)
			}
			for _, w := range ways[n] {
				ways[to] = append(ways[to], append(slices.Clone(w), to))
			}
		}
	}
	return ways
}

// taken tells how often each header was taken on a way, and how many bits in all, ahead of where it stands.
func (w way) taken(p api.Plan) (times map[int]int, bits int) {
	times = map[int]int{}
	for _, n := range w[:len(w)-1] {
		head := p.States[n].Head
		if head == -1 {
			continue
		}
		times[head]++
		for _, b := range p.Heads[head].W {
			bits += b
		}
	}
	return times, bits
}

// on tells on how many of those ways a header was taken.
func on(p api.Plan, ways []way, head int) int {
	n := 0
	for _, w := range ways {
		times, _ := w.taken(p)
		n += min(1, times[head])
	}
	return n
}

func modelSets(p api.Plan, ways []way) Sets {
	if len(ways) == 0 {
		return Sets{}
	}
	s := Sets{There: true}
	for head := range p.Heads {
		n := on(p, ways, head)
		power := uint64(math.Pow(2, float64(head)))
		if n > 0 {
			s.May += power
		}
		if n == len(ways) {
			s.Must += power
		}
	}
	var bytes []int
	for _, w := range ways {
		_, bits := w.taken(p)
		bytes = append(bytes, bits/8)
	}
	s.Least, s.Most = slices.Min(bytes), slices.Max(bytes)
	return s
}

// modelWalk tells what Walk is to tell.
func modelWalk(p api.Plan) ([]Sets, api.Fault) {
	if f := plan.Check(p); f != right {
		return nil, f
	}
	ways := allWays(p)
	for n, s := range p.States {
		here := ways[n]
		if len(here) == 0 {
			continue
		}
		if s.Head != -1 && on(p, here, s.Head) > 0 {
			return nil, fault(api.ErrTwice, 3000+n)
		}
		ofHeader := len(s.Cases) > 0 && s.On.H >= 0
		if ofHeader && s.On.H != s.Head && on(p, here, s.On.H) < len(here) {
			return nil, fault(api.ErrGone, 3000+n)
		}
	}
	var l []Sets
	for n := range len(p.States) + 1 {
		l = append(l, modelSets(p, ways[n]))
	}
	return l, right
}

// someHeader tells a header of whole bytes, with up to as many as there may be.
func someHeader(r *rand.Rand) api.Header {
	var h api.Header
	for range 1 + r.Intn(4) {
		h.W = append(h.W, 8*(1+r.Intn(6)))
	}
	if r.Intn(3) == 0 {
		h.W = append(h.W, 3, 5)
	}
	return h
}

// somePlace tells where a state may lead.
func somePlace(r *rand.Rand, n, states int) int {
	k := r.Intn(12)
	switch {
	case k < 2:
		return api.Accept
	case k < 3:
		return api.Reject
	case n+1 < states:
		return n + 1 + r.Intn(min(states-n-1, 3))
	}
	return api.Accept + r.Intn(2)
}

// someState tells a state of that number, which likes best to take the header own.
func someState(r *rand.Rand, p api.Plan, n, states, own int) api.State {
	s := api.State{Head: own, Else: somePlace(r, n, states)}
	if r.Intn(9) == 0 {
		s.Head = r.Intn(len(p.Heads)+1) - 1
	}
	places := []int{s.Head, s.Head, s.Head, s.Head, s.Head, 0, r.Intn(len(p.Heads)), api.InMeta, api.InPort}
	if n > 0 {
		places = append(places, p.States[0].Head, p.States[n-1].Head)
	}
	s.On.H = places[r.Intn(len(places))]
	if s.On.H >= 0 {
		s.On.F = r.Intn(len(p.Heads[s.On.H].W))
	}
	for range r.Intn(5) {
		s.Cases = append(s.Cases, api.Case{Mask: uint64(r.Intn(2)), To: somePlace(r, n, states)})
	}
	return s
}

// somePlan tells a plan that plan.Check has nothing against.
func somePlan(r *rand.Rand) api.Plan {
	p := api.Plan{Meta: []int{1 + r.Intn(48)}}
	for range 1 + r.Intn(6) {
		p.Heads = append(p.Heads, someHeader(r))
	}
	states := 1 + r.Intn(8)
	order := r.Perm(max(len(p.Heads), states))
	for n := range states {
		own := order[n]
		if own >= len(p.Heads) {
			own = -1
		}
		p.States = append(p.States, someState(r, p, n, states, own))
	}
	return p
}

func TestWalkAgainstModel(t *testing.T) {
	r := rand.New(rand.NewSource(10))
	seen := map[int]int{}
	passedBy, spread := 0, 0
	for range 60000 {
		p := somePlan(r)
		if f := plan.Check(p); f != right {
			t.Fatalf("no plan: %v: %+v", f, p)
		}
		before := plan.Own(p)
		got, f := Walk(p)
		want, wantF := modelWalk(p)
		if f != wantF || !slices.Equal(got, want) {
			t.Fatalf("%v %v, want %v %v: %+v", got, f, want, wantF, p)
		}
		if !reflect.DeepEqual(plan.Own(p), before) {
			t.Fatalf("the plan was changed: %+v, then %+v", before, p)
		}
		seen[f.Code]++
		if slices.Contains(got, nowhere) {
			passedBy++
		}
		if slices.ContainsFunc(got, func(s Sets) bool { return s.Must != 0 && s.Must != s.May && s.Least != s.Most }) {
			spread++
		}
	}
	for _, code := range []int{0, api.ErrTwice, api.ErrGone} {
		if seen[code] < 3000 {
			t.Errorf("the code %d came about %d times: too few", code, seen[code])
		}
	}
	if passedBy < 3000 || spread < 3000 {
		t.Errorf("%d with a place where no way comes, %d with ways that differ: too few", passedBy, spread)
	}
}

// spots tells every number and every list of a plan, wherever it stands.
func spots(v reflect.Value) []reflect.Value {
	var l []reflect.Value
	switch v.Kind() {
	case reflect.Struct:
		for i := range v.NumField() {
			l = append(l, spots(v.Field(i))...)
		}
		return l
	case reflect.Slice:
		l = append(l, v)
		for i := range v.Len() {
			l = append(l, spots(v.Index(i))...)
		}
		return l
	}
	return []reflect.Value{v}
}

// upset changes one number or one list.
func upset(r *rand.Rand, v reflect.Value) {
	switch v.Kind() {
	case reflect.Int:
		edges := []int{math.MinInt, -4, -3, -2, -1, 0, 1, 2, 3, 5, 6, 7, 8, 9, 48, 49, 63, 64, 65, 999, 1000, 1001, 1002, math.MaxInt}
		v.SetInt(int64(edges[r.Intn(len(edges))]))
	case reflect.Uint64:
		v.SetUint([]uint64{0, 1, 1 << r.Intn(64), math.MaxUint64}[r.Intn(4)])
	case reflect.Slice:
		l := reflect.MakeSlice(v.Type(), r.Intn(12), 12)
		reflect.Copy(l, v)
		v.Set(l)
	}
}

// Whatever it is given, Walk tells plan.Check's fault, or what the model tells.
func TestWalkOfAnything(t *testing.T) {
	r := rand.New(rand.NewSource(29))
	checked, passed := 0, 0
	for range 60000 {
		p := somePlan(r)
		for range 1 + r.Intn(3) {
			l := spots(reflect.ValueOf(&p).Elem())
			upset(r, l[r.Intn(len(l))])
		}
		got, f := Walk(p)
		want, wantF := modelWalk(p)
		if f != wantF || !slices.Equal(got, want) {
			t.Fatalf("%v %v, want %v %v: %+v", got, f, want, wantF, p)
		}
		if plan.Check(p) == right {
			passed++
		} else {
			checked++
		}
	}
	if checked < 3000 || passed < 3000 {
		t.Errorf("%d wrong plans, %d right ones: too few", checked, passed)
	}
}

// What is answered is new memory, and hangs on nothing that is done later.
func TestWalkNewMemory(t *testing.T) {
	r := rand.New(rand.NewSource(3))
	for range 2000 {
		p := somePlan(r)
		first, f := Walk(p)
		if f != right {
			continue
		}
		kept := slices.Clone(first)
		second, _ := Walk(p)
		for i := range second {
			second[i] = Sets{Must: 77, Least: -1}
		}
		for _, v := range spots(reflect.ValueOf(&p).Elem()) {
			if v.Kind() == reflect.Int {
				v.SetInt(5)
			}
		}
		if !slices.Equal(first, kept) {
			t.Fatalf("%v, then %v", kept, first)
		}
	}
}

// What lies behind a list's length is neither read nor written.
func TestWalkBehindTheLength(t *testing.T) {
	build := func() api.Plan {
		return parser(look(0, ref(0, 0), 1, 2), look(1, ref(api.InMeta, 0), 2, api.Reject), take(2, api.Accept))
	}
	p := build()
	var behind []reflect.Value
	// From within: a list that is copied takes along what was done to those that stand in it.
	for _, v := range slices.Backward(spots(reflect.ValueOf(&p).Elem())) {
		if v.Kind() != reflect.Slice {
			continue
		}
		n := v.Len()
		l := reflect.MakeSlice(v.Type(), n+3, n+3)
		reflect.Copy(l, v)
		for i := range 3 {
			for _, x := range spots(l.Index(n + i)) {
				if x.Kind() == reflect.Int {
					x.SetInt(1)
				}
				behind = append(behind, x)
			}
		}
		v.Set(l.Slice(0, n))
	}
	var before []any
	for _, v := range behind {
		before = append(before, v.Interface())
	}
	got, f := Walk(p)
	if want, wantF := Walk(build()); f != wantF || !slices.Equal(got, want) || f != right {
		t.Errorf("%v %v, want %v %v", got, f, want, wantF)
	}
	if want := []Sets{start, at(1, 1, 1, 1), at(1, 3, 1, 3), at(5, 7, 5, 7)}; !slices.Equal(got, want) {
		t.Errorf("%v, want %v", got, want)
	}
	for i, v := range behind {
		if !reflect.DeepEqual(v.Interface(), before[i]) {
			t.Errorf("behind a list: %v, want %v", v.Interface(), before[i])
		}
	}
}
