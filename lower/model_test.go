package lower_test

import (
	"math"
	"math/rand"
	"reflect"
	"slices"
	"testing"

	"shuntyard/api"
	"shuntyard/flow"
	"shuntyard/guard"
	"shuntyard/lower"
	"shuntyard/pack"
	"shuntyard/pipe"
	"shuntyard/plan"
	"shuntyard/vm"
	"shuntyard/walk"
	"shuntyard/word"
)

// The model is the plan itself, as package pipe runs it: plans, tables and packets are made at random.

// maker makes plans with which nothing is wrong.
type maker struct {
	*rand.Rand
	api.Plan
}

func (m *maker) one(l ...int) int { return l[m.Intn(len(l))] }

// some tells a number: of few bits, at an edge, or any.
func (m *maker) some() uint64 {
	switch m.Intn(4) {
	case 0:
		return 1<<m.Intn(64) - uint64(m.Intn(2))
	case 1:
		return m.Uint64()
	}
	return uint64(m.Intn(6))
}

// header makes one of whatever widths.
func (m *maker) header() api.Header {
	most := m.one(2, 6, 12, 20, api.MaxWidth)
	for {
		h := api.Header{}
		for range 1 + m.Intn(api.MaxFields) {
			h.W = append(h.W, 1+m.Intn(most))
		}
		if _, f := pack.Size(h); f == right {
			return h
		}
	}
}

// field tells a field, most often one of the headers 0 and 1.
func (m *maker) field() api.Ref {
	h := m.one(api.InMeta, api.InPort, 0, 0, min(1, len(m.Heads)-1), m.Intn(len(m.Heads)))
	if h == api.InMeta && len(m.Meta) > 0 {
		return ref(h, m.Intn(len(m.Meta)))
	}
	if h < 0 {
		return inPort
	}
	return ref(h, m.Intn(len(m.Heads[h].W)))
}

func (m *maker) target() api.Ref {
	if r := m.field(); r.H != api.InPort {
		return r
	}
	return ref(0, 0)
}

// tree makes an expression of at most eight steps; params is how many parameters there are.
func (m *maker) tree(params int) []api.Push {
	var e []api.Push
	depth, most := 0, 1+m.Intn(api.MaxTree)
	for len(e)+depth < most || depth == 0 {
		switch k := m.Intn(8); {
		case k < 3 && depth >= 2:
			e = append(e, step(m.one(3, 4, 5, 6, 7, 8, 9, 10, 11, 12)))
			depth--
		case k == 3 && depth >= 1:
			e = append(e, step(api.PNot))
		case k == 4 && params > 0:
			e = append(e, said(m.Intn(params)))
			depth++
		case k >= 6:
			e = append(e, num(m.some()))
			depth++
		default:
			e = append(e, get(m.field()))
			depth++
		}
	}
	for ; depth > 1; depth-- {
		e = append(e, step(m.one(3, 4, 5, 6, 7, 8, 9, 10, 11, 12)))
	}
	return e
}

func (m *maker) action() api.Action {
	a := api.Action{}
	for range m.one(0, 0, 1, 2, 3) {
		a.W = append(a.W, 1+m.Intn(api.MaxWidth))
	}
	for range m.Intn(api.MaxOps + 1) {
		o := api.Op{Kind: m.one(1, 1, 1, 2, 2, 3, 5, 5, 5, 6, 6), R: m.target(), Head: m.Intn(len(m.Heads)), E: m.tree(len(a.W))}
		if m.Intn(40) == 0 {
			o.Kind = api.ODrop
		}
		if o.Kind == api.OSum && m.Intn(2) == 0 && o.R.H >= 0 {
			o.Head = o.R.H
		}
		a.Ops = append(a.Ops, o)
	}
	return a
}

// parser makes states that take headers in whatever order, some of them none.
func (m *maker) parser() {
	for {
		m.States = nil
		heads := m.Perm(len(m.Heads))
		slices.SortFunc(heads[:m.Intn(len(heads)+1)], func(a, b int) int { return a - b })
		states := 1 + m.Intn(api.MaxStates)
		for n := range states {
			s := api.State{Head: -1, On: m.field(), Else: m.place(n, states)}
			if len(heads) > 0 && m.Intn(6) > 0 {
				s.Head, heads = heads[0], heads[1:]
				if m.Intn(2) == 0 {
					s.On = ref(s.Head, m.Intn(len(m.Heads[s.Head].W)))
				}
			}
			for range m.Intn(api.MaxCases + 1) {
				mask := m.some() & m.some() & (1<<plan.Width(m.Plan, s.On, nil) - 1)
				s.Cases = append(s.Cases, when(m.some()&mask, mask, m.place(n, states)))
			}
			m.States = append(m.States, s)
		}
		if _, f := walk.Walk(m.Plan); f == right {
			return
		}
	}
}

func (m *maker) place(n, states int) int {
	if n+1 < states && m.Intn(5) > 0 {
		return n + 1 + m.Intn(min(2, states-n-1))
	}
	return m.one(api.Accept, api.Accept, api.Accept, api.Accept, api.Accept, api.Reject)
}

// args tells numbers for the parameters of an action.
func (m *maker) args(act int) []uint64 {
	var l []uint64
	for _, w := range m.Acts[act].W {
		l = append(l, m.some()&(1<<w-1))
	}
	return l
}

func (m *maker) table() api.Table {
	t := api.Table{Kind: m.one(api.KExact, api.KPrefix, api.KTernary), Cap: m.Intn(api.MaxCap + 1)}
	keys := 1
	if t.Kind != api.KPrefix {
		keys = m.one(1, 1, 2, 3)
	}
	for range keys {
		t.Keys = append(t.Keys, m.field())
	}
	for range 1 + m.Intn(api.MaxSays) {
		t.Acts = append(t.Acts, m.Intn(len(m.Acts)))
	}
	t.Def = t.Acts[m.Intn(len(t.Acts))]
	t.Args = m.args(t.Def)
	return t
}

// node makes one that leads to where x leads.
func (m *maker) node(x api.Node) api.Node {
	x.Kind, x.E = m.one(1, 1, 1, 2, 2, 3, 4), m.tree(0)
	many := []int{api.NTable: len(m.Tabs), api.NDo: len(m.Acts), api.NIf: 9, api.NThere: len(m.Heads)}
	x.N = m.Intn(many[x.Kind])
	return x
}

// control makes nodes that do nothing at first, and lets them do what nothing is wrong with.
func (m *maker) control() {
	nodes := m.Intn(api.MaxNodes + 1)
	for n := range nodes {
		onward := func() int { return min(nodes, n+m.one(1, 1, 1, 2, 3)) }
		m.Nodes = append(m.Nodes, check(onward(), onward(), get(inPort), num(1), step(api.PAnd)))
	}
	for n, x := range m.Nodes {
		for range 8 {
			if m.Nodes[n] = m.node(x); flow.Check(m.Plan) == right {
				break
			}
			m.Nodes[n] = x
		}
	}
}

func somePlan(r *rand.Rand) api.Plan {
	m := &maker{Rand: r}
	for range r.Intn(api.MaxMeta + 1) {
		m.Meta = append(m.Meta, 1+r.Intn(api.MaxWidth))
	}
	for range 1 + r.Intn(api.MaxHeads) {
		m.Heads = append(m.Heads, m.header())
	}
	m.parser()
	for range 1 + r.Intn(api.MaxActs) {
		m.Acts = append(m.Acts, m.action())
	}
	for range 1 + r.Intn(api.MaxTabs) {
		m.Tabs = append(m.Tabs, m.table())
	}
	m.Out = r.Perm(len(m.Heads))[:r.Intn(len(m.Heads)+1)]
	m.control()
	return m.Plan
}

// packet tells a packet, most often of few other numbers.
func packet(r *rand.Rand) []byte {
	b := make([]byte, []int{0, 1, 2, 3, 5, 10, 15, 20, 30, 40, 60, 60, 100, 150, 200, 600}[r.Intn(16)])
	for i := range b {
		b[i] = []byte{0, 1, 2, 3, 0x40, 0x80, 0xFF, byte(r.Intn(256))}[r.Intn(8)]
	}
	return b
}

func somePort(r *rand.Rand) int { return []int{0, 1, 2, 0xFFFF, r.Intn(0x10000)}[r.Intn(5)] }

// entry tells one for a table, most often one that may be there.
func (m *maker) entry(n int) api.Entry {
	t := m.Tabs[n]
	e := api.Entry{Act: t.Acts[m.Intn(len(t.Acts))]}
	e.Args = m.args(e.Act)
	for _, w := range plan.Widths(m.Plan, t) {
		key := m.some() & (1<<w - 1)
		switch t.Kind {
		case api.KPrefix:
			e.Len = m.Intn(w + 1)
			key &^= 1<<(w-e.Len) - 1
		case api.KTernary:
			mask := m.some() & m.some() & (1<<w - 1)
			key &= mask
			e.Masks = append(e.Masks, mask)
			e.Prio = m.Intn(api.MaxPrio + 1)
		}
		e.Keys = append(e.Keys, key)
	}
	return e
}

// change does anything to one of the tables.
func (m *maker) change(q *pipe.Pipe) {
	if len(q.Tabs) == 0 {
		return
	}
	n := m.Intn(len(q.Tabs))
	e := m.entry(n)
	switch all := q.Tabs[n].All(); m.Intn(6) {
	case 0:
		q.Tabs[n].Default(api.Hit{Act: e.Act, Args: e.Args})
	case 1:
		if len(all) > 0 {
			q.Tabs[n].Drop(all[m.Intn(len(all))])
		}
	case 2:
		if len(all) > 0 {
			was := all[m.Intn(len(all))]
			was.Act, was.Args = e.Act, e.Args
			q.Tabs[n].Change(was)
		}
	default:
		q.Tabs[n].Add(e)
	}
}

// seen counts what becomes of packets.
type seen struct{ nowhere, ports, as, other int }

func (s *seen) count(b []byte, r api.Result) {
	switch {
	case r.Port < 0:
		s.nowhere++
	case alike(r, out(r.Port, b...)):
		s.as++
	default:
		s.other++
	}
	if r.Port > 0 {
		s.ports++
	}
}

// Each packet, by whatever tables, becomes the same.
func TestLikeThePlan(t *testing.T) {
	r := rand.New(rand.NewSource(17))
	var s seen
	longest := 0
	for range 4000 {
		p := somePlan(r)
		before := plan.Own(p)
		b := lowered(t, "at random", p)
		if !reflect.DeepEqual(plan.Own(p), before) {
			t.Fatalf("the plan was changed: %+v, then %+v", before, p)
		}
		longest = max(longest, len(b.program.Code))
		m := &maker{r, p}
		for range 25 {
			l, port := packet(r), somePort(r)
			want, _ := b.q.Run(l, port)
			if got := b.run(l, port); !alike(got, want) {
				t.Fatalf("%v by %d: %v, want %v: %+v", l, port, got, want, p)
			}
			s.count(l, want)
			m.change(b.q)
		}
	}
	if s.nowhere < 10000 || s.ports < 3000 || s.as < 5000 || s.other < 20000 || longest < 1500 {
		t.Errorf("too few of something: %+v, and at most %d instructions", s, longest)
	}
}

// What was lowered has bytes, and is the same when it comes back of them.
func TestProgramsAsBytes(t *testing.T) {
	r := rand.New(rand.NewSource(18))
	for range 300 {
		m, _ := lower.Lower(somePlan(r))
		b, f := word.Encode(m)
		back, g := word.Decode(b)
		if f != right || g != right || back.Slots != m.Slots || !slices.Equal(back.Tabs, m.Tabs) || !slices.Equal(back.Code, m.Code) {
			t.Fatalf("%v, %v: %v, want %v", f, g, back, m)
		}
	}
}

// spots tells every number and every list of a plan, wherever it stands.
func spots(v reflect.Value) []reflect.Value {
	var l []reflect.Value
	switch v.Kind() {
	case reflect.Struct:
		for i := range v.NumField() {
			l = append(l, spots(v.Field(i))...)
		}
		return l
	case reflect.Slice:
		l = append(l, v)
		for i := range v.Len() {
			l = append(l, spots(v.Index(i))...)
		}
		return l
	}
	return []reflect.Value{v}
}

// upset changes one number or one list.
func upset(r *rand.Rand, v reflect.Value) {
	switch v.Kind() {
	case reflect.Int:
		edges := []int{math.MinInt, -4, -3, -2, -1, 0, 1, 2, 3, 4, 5, 6, 7, 10, 11, 48, 63, 64, 65, 1000, 1001, math.MaxInt}
		v.SetInt(int64(edges[r.Intn(len(edges))]))
	case reflect.Uint64:
		v.SetUint([]uint64{0, 1, 1 << r.Intn(64), math.MaxUint64}[r.Intn(4)])
	case reflect.Slice:
		l := reflect.MakeSlice(v.Type(), r.Intn(12), 12)
		reflect.Copy(l, v)
		v.Set(l)
	}
}

// Whatever plan it is given, Lower tells flow.Check's fault, or a program that does what the plan does.
func TestLowerOfAnything(t *testing.T) {
	r := rand.New(rand.NewSource(19))
	refused, let := 0, 0
	for range 6000 {
		p := plan.Own(somePlan(r))
		for range 1 + r.Intn(3) {
			l := spots(reflect.ValueOf(&p).Elem())
			upset(r, l[r.Intn(len(l))])
		}
		if want := flow.Check(p); want != right {
			refused++
			m, f := lower.Lower(p)
			if l := lower.Shapes(p); f != want || !isNone(m) || len(l) != 0 {
				t.Fatalf("%v %v %v, want %v: %+v", m, f, l, want, p)
			}
			continue
		}
		let++
		b := lowered(t, "of anything", p)
		m := &maker{r, p}
		for range 5 {
			l, port := packet(r), somePort(r)
			want, _ := b.q.Run(l, port)
			if got := b.run(l, port); !alike(got, want) {
				t.Fatalf("%v by %d: %v, want %v: %+v", l, port, got, want, p)
			}
			m.change(b.q)
		}
	}
	if refused < 1000 || let < 1000 {
		t.Errorf("%d wrong plans, %d right ones: too few", refused, let)
	}
}

// What lies behind a list's length is neither read nor written, and nothing of a plan is kept.
func TestBehindTheLength(t *testing.T) {
	r := rand.New(rand.NewSource(20))
	for range 300 {
		p := plan.Own(somePlan(r))
		want, _ := lower.Lower(plan.Own(p))
		var behind []reflect.Value
		// From within: a list that is copied takes along what was done to those that stand in it.
		for _, v := range slices.Backward(spots(reflect.ValueOf(&p).Elem())) {
			if v.Kind() != reflect.Slice {
				continue
			}
			n := v.Len()
			l := reflect.MakeSlice(v.Type(), n+3, n+3)
			reflect.Copy(l, v)
			for i := range 3 {
				for _, x := range spots(l.Index(n + i)) {
					if x.Kind() == reflect.Int {
						x.SetInt(1)
					}
					behind = append(behind, x)
				}
			}
			v.Set(l.Slice(0, n))
		}
		var before []any
		for _, v := range behind {
			before = append(before, v.Interface())
		}
		got, f := lower.Lower(p)
		shapes := lower.Shapes(p)
		for i, v := range behind {
			if !reflect.DeepEqual(v.Interface(), before[i]) {
				t.Fatalf("behind a list: %v, want %v", v.Interface(), before[i])
			}
		}
		for _, v := range spots(reflect.ValueOf(&p).Elem()) {
			switch v.Kind() {
			case reflect.Int:
				v.SetInt(5)
			case reflect.Uint64:
				v.SetUint(7)
			}
		}
		if f != right || !reflect.DeepEqual(got, want) || !slices.Equal(shapes, want.Tabs) {
			t.Fatalf("%v %v, want %v", got, f, want)
		}
	}
}

// The guard's word holds: a program goes wrong nowhere, of whatever packet.
func TestGoesWrongNowhere(t *testing.T) {
	r := rand.New(rand.NewSource(21))
	for range 200 {
		b := lowered(t, "each length", somePlan(r))
		if f := guard.Check(b.program); f != right {
			t.Fatal(f)
		}
		for long := range 220 {
			l := make([]byte, long)
			r.Read(l)
			want, _ := b.q.Run(l, long)
			if got, _, f := vm.Run(b.program, b.q.Tabs, l, long); f != right || !alike(got, want) {
				t.Fatalf("%v: %v %v, want %v", l, got, f, want)
			}
		}
	}
}
