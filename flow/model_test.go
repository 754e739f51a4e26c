package flow

import (
	"math"
	"math/rand"
	"reflect"
	"slices"
	"testing"

	"shuntyard/api"
	"shuntyard/plan"
	"shuntyard/walk"
)

// The model knows no bits: of each node it writes down all that may be there, one by one, as the ways bring it, and asks each of these for what is read.

// have tells by a header's number whether it is there.
type have [api.MaxHeads]bool

func (h have) but(head int, is bool) have {
	h[head] = is
	return h
}

// all asks whether there is a header of each of those fields.
func (h have) all(l []api.Ref) bool {
	for _, r := range l {
		if r.H >= 0 && !h[r.H] {
			return false
		}
	}
	return true
}

// haves is what there may be at a place, and how often it came there.
type haves map[have]int

// accepted tells what may be there when a parser has done.
func accepted(p api.Plan) haves {
	at := map[int]haves{0: {have{}: 1}}
	for n, s := range p.States {
		for h := range at[n] {
			if s.Head >= 0 {
				h = h.but(s.Head, true)
			}
			ways := []int{s.Else}
			for _, c := range s.Cases {
				ways = append(ways, c.To)
			}
			for _, to := range ways {
				if at[to] == nil {
					at[to] = haves{}
				}
				at[to][h]++
			}
		}
	}
	return at[1000]
}

// fields tells all that an expression reads.
func fields(e []api.Push) []api.Ref {
	var l []api.Ref
	for _, s := range e {
		if s.Op == 2 {
			l = append(l, s.R)
		}
	}
	return l
}

// touched tells all that a deed reads or sets; of a header that is summed, its first field.
func touched(o api.Op) []api.Ref {
	switch o.Kind {
	case 1:
		return append(fields(o.E), o.R)
	case 5:
		return fields(o.E)
	case 6:
		return []api.Ref{o.R, {H: o.Head}}
	}
	return nil
}

// after tells what is there behind an action, and whether all that it touches is there.
func after(a api.Action, h have) (have, bool) {
	ok := true
	for _, o := range a.Ops {
		ok = ok && h.all(touched(o))
		if o.Kind == 2 || o.Kind == 3 {
			h = h.but(o.Head, o.Kind == 2)
		}
	}
	return h, ok
}

// onward is a way that goes on.
type onward struct {
	to int
	have
}

// out tells the ways out of a node, for what is there, and whether all that it touches is.
func out(p api.Plan, x api.Node, h have) ([]onward, bool) {
	switch x.Kind {
	case 3:
		return []onward{{x.Yes, h}, {x.No, h}}, h.all(fields(x.E))
	case 4:
		return []onward{{x.Yes, h.but(x.N, true)}, {x.No, h.but(x.N, false)}}, true
	}
	acts, ok := []int{x.N}, true
	if x.Kind == 1 {
		acts, ok = p.Tabs[x.N].Acts, h.all(p.Tabs[x.N].Keys)
	}
	var l []onward
	for _, a := range acts {
		then, fine := after(p.Acts[a], h)
		l = append(l, onward{x.Yes, then})
		ok = ok && fine
	}
	return l, ok
}

// inAll tells which headers all of them have.
func inAll(l haves) uint64 {
	if len(l) == 0 {
		return none
	}
	sum := 0.0
	for head := range api.MaxHeads {
		n := 0
		for h := range l {
			if h[head] {
				n++
			}
		}
		if n == len(l) {
			sum += math.Pow(2, float64(head))
		}
	}
	return uint64(sum)
}

// modelFlow tells what Flow is to tell.
func modelFlow(p api.Plan) ([]uint64, api.Fault) {
	if _, f := walk.Walk(p); f != right {
		return nil, f
	}
	at := make([]haves, len(p.Nodes)+1)
	for n := range at {
		at[n] = haves{}
	}
	for h := range accepted(p) {
		at[0][h]++
	}
	for n, x := range p.Nodes {
		for h := range at[n] {
			ways, ok := out(p, x, h)
			if !ok {
				return nil, gone(n)
			}
			for _, w := range ways {
				at[w.to][w.have]++
			}
		}
	}
	var l []uint64
	for _, h := range at {
		l = append(l, inAll(h))
	}
	return l, right
}

// maker makes plans at random, which plan.Check has nothing against.
type maker struct {
	*rand.Rand
	api.Plan
}

// one tells one of the numbers.
func (m *maker) one(l ...int) int { return l[m.Intn(len(l))] }

// field tells a field, most often one that may well be there.
func (m *maker) field() api.Ref {
	h := m.one(api.InMeta, api.InPort, 0, 0, 0, 0, min(1, len(m.Heads)-1), m.Intn(len(m.Heads)))
	if h < 0 {
		return ref(h, 0)
	}
	return ref(h, m.Intn(len(m.Heads[h].W)))
}

// target tells a field that may be set.
func (m *maker) target() api.Ref {
	if r := m.field(); r.H != api.InPort {
		return r
	}
	return inMeta
}

func (m *maker) tree() []api.Push {
	var l []api.Ref
	for range m.one(0, 0, 1, 1, 1, 2) {
		l = append(l, m.field())
	}
	return of(l...)
}

func (m *maker) deed() api.Op {
	o := api.Op{Kind: m.one(1, 2, 2, 3, 4, 5, 6), R: m.target(), E: m.tree()}
	o.Head = m.one(0, 0, m.Intn(len(m.Heads)))
	switch o.Kind {
	case api.OOn, api.OOff:
		o.Head = m.Intn(len(m.Heads))
	}
	return o
}

// parser makes states that take other headers each, and look at one of their own most often.
func (m *maker) parser() {
	states := 1 + m.Intn(5)
	order := m.Perm(len(m.Heads) + 4)
	if m.Intn(3) > 0 {
		order = append([]int{0}, slices.DeleteFunc(order, func(n int) bool { return n == 0 })...)
	}
	for n := range states {
		s := api.State{Head: order[n], On: inPort, Else: m.place(n, states)}
		if s.Head >= len(m.Heads) {
			s.Head = -1
		}
		switch k := m.Intn(8); {
		case k == 0:
			s.On = m.field()
		case k < 6 && s.Head >= 0:
			s.On = ref(s.Head, 0)
		}
		for range m.one(0, 0, 1, 2, 4) {
			s.Cases = append(s.Cases, api.Case{Mask: uint64(m.Intn(2)), To: m.place(n, states)})
		}
		m.States = append(m.States, s)
	}
}

func (m *maker) place(n, states int) int {
	if n+1 < states && m.Intn(3) > 0 {
		return n + 1 + m.Intn(min(2, states-n-1))
	}
	return m.one(api.Accept, api.Accept, api.Accept, api.Reject)
}

func (m *maker) table() api.Table {
	t := api.Table{Kind: m.one(api.KExact, api.KPrefix, api.KTernary), Cap: m.Intn(17)}
	keys := 1
	if t.Kind != api.KPrefix {
		keys = m.one(1, 1, 2, 3)
	}
	for range keys {
		t.Keys = append(t.Keys, m.field())
	}
	for range 1 + m.Intn(4) {
		t.Acts = append(t.Acts, m.Intn(len(m.Acts)))
	}
	t.Def = t.Acts[m.Intn(len(t.Acts))]
	t.Args = make([]uint64, len(m.Acts[t.Def].W))
	return t
}

// node makes the node of that number; the action 0 has no parameters.
func (m *maker) node(n, nodes int) api.Node {
	onward := func() int { return min(nodes, n+m.one(1, 1, 1, 2, 2, 3)) }
	x := api.Node{Kind: m.one(1, 1, 2, 2, 3, 4, 4), E: m.tree(), Yes: onward(), No: onward()}
	switch x.Kind {
	case api.NTable:
		x.N = m.Intn(len(m.Tabs))
	case api.NDo:
		if x.N = m.Intn(len(m.Acts)); len(m.Acts[x.N].W) > 0 {
			x.N = 0
		}
	case api.NThere:
		x.N = m.Intn(len(m.Heads))
	}
	return x
}

func somePlan(r *rand.Rand) api.Plan {
	m := &maker{r, api.Plan{Meta: []int{8}}}
	for range 1 + r.Intn(6) {
		m.Heads = append(m.Heads, api.Header{W: [][]int{{8}, {4, 12}, {48, 8, 8}, {16}}[r.Intn(4)]})
	}
	m.parser()
	for n := range 1 + r.Intn(8) {
		a := api.Action{}
		if n > 0 && r.Intn(3) == 0 {
			a.W = []int{8}
		}
		for range m.one(0, 1, 1, 2, 3, 5) {
			a.Ops = append(a.Ops, m.deed())
		}
		m.Acts = append(m.Acts, a)
	}
	for range 1 + r.Intn(5) {
		m.Tabs = append(m.Tabs, m.table())
	}
	nodes := r.Intn(11)
	for n := range nodes {
		m.Nodes = append(m.Nodes, m.node(n, nodes))
	}
	m.Out = r.Perm(len(m.Heads))
	return m.Plan
}

func TestFlowAgainstModel(t *testing.T) {
	r := rand.New(rand.NewSource(11))
	seen := map[int]int{} // by the kind of the node that reads what may not be there
	passedBy, long := 0, 0
	for range 60000 {
		p := somePlan(r)
		if f := plan.Check(p); f != right {
			t.Fatalf("no plan: %v: %+v", f, p)
		}
		before := plan.Own(p)
		got, f := Flow(p)
		want, wantF := modelFlow(p)
		if f != wantF || !slices.Equal(got, want) {
			t.Fatalf("%v %v, want %v %v: %+v", got, f, want, wantF, p)
		}
		if again := Check(p); again != f {
			t.Fatalf("Check tells %v, want %v: %+v", again, f, p)
		}
		if !reflect.DeepEqual(plan.Own(p), before) {
			t.Fatalf("the plan was changed: %+v, then %+v", before, p)
		}
		switch {
		case f.At >= 6000:
			seen[p.Nodes[f.At-6000].Kind]++
		case f == right:
			seen[0]++
			if len(got) > 5 {
				long++
			}
			if slices.Contains(got, none) {
				passedBy++
			}
		}
	}
	for _, kind := range []int{0, api.NTable, api.NDo, api.NIf} {
		if seen[kind] < 3000 {
			t.Errorf("the kind %d came about %d times: too few", kind, seen[kind])
		}
	}
	if passedBy < 2000 || long < 2000 {
		t.Errorf("%d with a place where no way comes, %d of many nodes: too few", passedBy, long)
	}
}

// spots tells every number and every list of a plan, wherever it stands.
func spots(v reflect.Value) []reflect.Value {
	var l []reflect.Value
	switch v.Kind() {
	case reflect.Struct:
		for i := range v.NumField() {
			l = append(l, spots(v.Field(i))...)
		}
		return l
	case reflect.Slice:
		l = append(l, v)
		for i := range v.Len() {
			l = append(l, spots(v.Index(i))...)
		}
		return l
	}
	return []reflect.Value{v}
}

// upset changes one number or one list.
func upset(r *rand.Rand, v reflect.Value) {
	switch v.Kind() {
	case reflect.Int:
		edges := []int{math.MinInt, -4, -3, -2, -1, 0, 1, 2, 3, 4, 5, 6, 7, 10, 11, 48, 63, 64, 65, 1000, 1001, math.MaxInt}
		v.SetInt(int64(edges[r.Intn(len(edges))]))
	case reflect.Uint64:
		v.SetUint([]uint64{0, 1, 1 << r.Intn(64), math.MaxUint64}[r.Intn(4)])
	case reflect.Slice:
		l := reflect.MakeSlice(v.Type(), r.Intn(12), 12)
		reflect.Copy(l, v)
		v.Set(l)
	}
}

// Whatever it is given, Flow tells walk.Walk's fault, or what the model tells.
func TestFlowOfAnything(t *testing.T) {
	r := rand.New(rand.NewSource(32))
	refused, let := 0, 0
	for range 15000 {
		p := plan.Own(somePlan(r))
		for range 1 + r.Intn(3) {
			l := spots(reflect.ValueOf(&p).Elem())
			upset(r, l[r.Intn(len(l))])
		}
		got, f := Flow(p)
		want, wantF := modelFlow(p)
		if f != wantF || !slices.Equal(got, want) {
			t.Fatalf("%v %v, want %v %v: %+v", got, f, want, wantF, p)
		}
		if again := Check(p); again != f {
			t.Fatalf("Check tells %v, want %v: %+v", again, f, p)
		}
		if _, f := walk.Walk(p); f == right {
			let++
		} else {
			refused++
		}
	}
	if refused < 3000 || let < 3000 {
		t.Errorf("%d wrong plans, %d right ones: too few", refused, let)
	}
}

// runner is a packet on its way, by dice wherever it hangs on what the packet or a table has: it may go as any run may.
type runner struct {
	*rand.Rand
	api.Plan
	have
	touches, short int // how many fields of headers, and how many of those of headers that were not there
}

func (r *runner) touch(l ...api.Ref) {
	for _, x := range l {
		if x.H < 0 {
			continue
		}
		r.touches++
		if !r.have[x.H] {
			r.short++
		}
	}
}

// parse tells whether the packet was accepted.
func (r *runner) parse() bool {
	to := 0
	for to < 1000 {
		s := r.States[to]
		if s.Head >= 0 {
			r.have[s.Head] = true
		}
		to = s.Else
		if len(s.Cases) > 0 {
			r.touch(s.On)
			if n := r.Intn(len(s.Cases) + 1); n < len(s.Cases) {
				to = s.Cases[n].To
			}
		}
	}
	return to == api.Accept
}

func (r *runner) act(a api.Action) {
	for _, o := range a.Ops {
		r.touch(touched(o)...)
		switch o.Kind {
		case api.OOn:
			r.have[o.Head] = true
		case api.OOff:
			r.have[o.Head] = false
		}
	}
}

// step does a node, and tells where it leads.
func (r *runner) step(x api.Node) int {
	yes := true
	switch x.Kind {
	case api.NTable:
		tab := r.Tabs[x.N]
		r.touch(tab.Keys...)
		r.act(r.Acts[tab.Acts[r.Intn(len(tab.Acts))]])
	case api.NDo:
		r.act(r.Acts[x.N])
	case api.NIf:
		r.touch(fields(x.E)...)
		yes = r.Intn(2) == 0
	case api.NThere:
		yes = r.have[x.N]
	}
	if yes {
		return x.Yes
	}
	return x.No
}

// holds asks whether all headers that are told are there.
func (r *runner) holds(told uint64) bool {
	for head := range r.Heads {
		if told>>head&1 == 1 && !r.have[head] {
			return false
		}
	}
	return told != none
}

// Nothing is read that is not there, and what is told to be there is, in whatever run.
func TestFlowInRuns(t *testing.T) {
	dice := rand.New(rand.NewSource(7))
	touches, refused := 0, 0
	for range 20000 {
		p := somePlan(dice)
		told, f := Flow(p)
		for range 20 {
			r := &runner{Rand: dice, Plan: p}
			n := 0
			for ok := r.parse(); ok && n <= len(p.Nodes); {
				if f == right && !r.holds(told[n]) {
					t.Fatalf("%v at %d, but there is %v: %+v", told, n, r.have, p)
				}
				if n == len(p.Nodes) {
					break
				}
				n = r.step(p.Nodes[n])
			}
			if f == right && r.short > 0 {
				t.Fatalf("%d of %d fields were not there: %+v", r.short, r.touches, p)
			}
			if f == right {
				touches += r.touches
			} else {
				refused += r.short
			}
		}
	}
	if touches < 100000 || refused < 100000 {
		t.Errorf("%d fields were looked at; of plans with a fault %d that were not there: too few", touches, refused)
	}
}

// What is answered is new memory, and hangs on nothing that is done later.
func TestFlowNewMemory(t *testing.T) {
	r := rand.New(rand.NewSource(3))
	for range 2000 {
		p := plan.Own(somePlan(r))
		first, f := Flow(p)
		if f != right {
			continue
		}
		kept := slices.Clone(first)
		second, _ := Flow(p)
		for i := range second {
			second[i] = 77
		}
		for _, v := range spots(reflect.ValueOf(&p).Elem()) {
			if v.Kind() == reflect.Int {
				v.SetInt(5)
			}
		}
		if !slices.Equal(first, kept) {
			t.Fatalf("%v, then %v", kept, first)
		}
	}
}

// What lies behind a list's length is neither read nor written.
func TestFlowBehindTheLength(t *testing.T) {
	build := func() api.Plan {
		acts := []api.Action{act(on(1), set(ref(1, 0), ref(0, 0))), act(on(1), on(2), port(ref(2, 0)))}
		return with(yard(ask(0, 1), check(2, 3, ref(1, 1)), do(0, 3)), acts, tab([]int{0, 1}, ref(0, 0)))
	}
	p := build()
	var behind []reflect.Value
	// From within: a list that is copied takes along what was done to those that stand in it.
	for _, v := range slices.Backward(spots(reflect.ValueOf(&p).Elem())) {
		if v.Kind() != reflect.Slice {
			continue
		}
		n := v.Len()
		l := reflect.MakeSlice(v.Type(), n+3, n+3)
		reflect.Copy(l, v)
		for i := range 3 {
			for _, x := range spots(l.Index(n + i)) {
				if x.Kind() == reflect.Int {
					x.SetInt(3)
				}
				behind = append(behind, x)
			}
		}
		v.Set(l.Slice(0, n))
	}
	var before []any
	for _, v := range behind {
		before = append(before, v.Interface())
	}
	got, f := Flow(p)
	if want := []uint64{1, 3, 3, 3}; f != right || !slices.Equal(got, want) {
		t.Errorf("%v %v, want %v", got, f, want)
	}
	for i, v := range behind {
		if !reflect.DeepEqual(v.Interface(), before[i]) {
			t.Errorf("behind a list: %v, want %v", v.Interface(), before[i])
		}
	}
}

// A list without elements is the same, nil or empty.
func TestFlowEmptyLists(t *testing.T) {
	p := yard()
	p.Nodes, p.Acts, p.Tabs, p.Out = []api.Node{}, []api.Action{}, []api.Table{}, []int{}
	tryTold(t, []told{{"empty", p, []uint64{1}}, {"nil", yard(), []uint64{1}}})
}
