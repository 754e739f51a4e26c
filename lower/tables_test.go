package lower_test

import (
	"bytes"
	"reflect"
	"slices"
	"testing"

	"shuntyard/api"
	"shuntyard/flow"
	"shuntyard/lower"
	"shuntyard/plan"
	"shuntyard/store"
	"shuntyard/vm"
)

// said tells the parameter of that number.
func said(n int) api.Push { return get(ref(api.InArg, n)) }

func TestTablesOfEachKind(t *testing.T) {
	x := ref(0, 0)
	acts := []api.Action{act(drop()), with([]int{16}, port(said(0))), act()}
	table := func(kind int) both {
		p := yard(acts, ask(0, 1))
		p.Tabs = []api.Table{{Kind: kind, Keys: []api.Ref{x}, Acts: []int{1, 0}, Cap: 4, Def: 1, Args: []uint64{9}}}
		return lowered(t, "kind", p)
	}
	b := table(api.KExact)
	b.want(out(9, 8), 3, 8)
	b.q.Tabs[0].Add(api.Entry{Keys: []uint64{8}, Act: 1, Args: []uint64{0xFFFF}})
	b.want(out(0xFFFF, 8), 3, 8)
	b.want(out(9, 10), 3, 10)
	b.q.Tabs[0].Change(api.Entry{Keys: []uint64{8}, Act: 0})
	b.want(gone, 3, 8)
	b.q.Tabs[0].Drop(api.Entry{Keys: []uint64{8}})
	b.want(out(9, 8), 3, 8)
	b.q.Tabs[0].Default(api.Hit{Act: 0})
	b.want(gone, 3, 8)

	b = table(api.KPrefix)
	b.q.Tabs[0].Add(api.Entry{Keys: []uint64{0x80}, Len: 1, Act: 1, Args: []uint64{1}})
	b.q.Tabs[0].Add(api.Entry{Keys: []uint64{0xC0}, Len: 2, Act: 1, Args: []uint64{2}})
	b.want(out(9, 0x7E), 3, 0x7E)
	b.want(out(1, 0x80), 3, 0x80)
	b.want(out(2, 0xFE), 3, 0xFE)

	b = table(api.KTernary)
	b.q.Tabs[0].Add(api.Entry{Keys: []uint64{2}, Masks: []uint64{2}, Prio: 5, Act: 1, Args: []uint64{1}})
	b.q.Tabs[0].Add(api.Entry{Keys: []uint64{6}, Masks: []uint64{6}, Prio: 4, Act: 0})
	b.want(out(9, 4), 3, 4)
	b.want(out(1, 2), 3, 2)
	b.want(gone, 3, 6)
}

// A table is asked for what each of its Keys has, in order, wherever that stands.
func TestKeys(t *testing.T) {
	fields := []api.Ref{ref(0, 0), ref(1, 1), ref(3, 1), inPort, inMeta, ref(-1, 1)}
	has := []uint64{7, 0xABC, 0x2345, 3, 5, 1<<48 - 2}
	p := yard([]api.Action{
		act(set(inMeta, num(5)), set(ref(-1, 1), num(1<<48-2))),
		act(port(num(99))),
		act(),
	}, do(0, 1), ask(0, 2))
	p.States = []api.State{take(0, 1), take(1, 2), take(3, api.Accept)}
	packet := []byte{7, 0x1A, 0xBC, 0x46, 0x8A, 0xFF, 0xFF}
	for i := range fields {
		for j := range fields {
			for k := range fields {
				p.Tabs = []api.Table{{Kind: api.KExact, Keys: []api.Ref{fields[i], fields[j], fields[k]}, Acts: []int{1, 2}, Cap: 4, Def: 2}}
				b := lowered(t, "keys", p)
				b.want(out(0, packet...), 3, packet...)
				if code := b.q.Tabs[0].Add(api.Entry{Keys: []uint64{has[i], has[j], has[k]}, Act: 1}); code != 0 {
					t.Fatalf("Add tells %d", code)
				}
				b.want(out(99, packet...), 3, packet...)
			}
		}
	}
}

// Each action is done with its own numbers, as many as it has.
func TestNumbersThatAreSaid(t *testing.T) {
	x := ref(0, 0)
	most := uint64(1<<48 - 1)
	p := yard([]api.Action{
		with([]int{8, 8, 8}, on(3), set(ref(3, 0), said(0)), set(ref(3, 1), said(1)), set(ref(3, 2), said(2))),
		with([]int{48}, on(2), set(ref(2, 1), said(0), num(32), step(api.PShr))),
		with([]int{1, 48}, on(2), set(ref(2, 0), said(0)), set(ref(2, 1), said(1))),
		act(),
	}, ask(0, 1))
	p.Tabs = []api.Table{{Kind: api.KExact, Keys: []api.Ref{x}, Acts: []int{3, 1, 0, 2}, Cap: 4, Def: 3}}
	b := lowered(t, "said", p)
	for _, e := range []api.Entry{
		{Keys: []uint64{0}, Act: 0, Args: []uint64{1, 2, 3}},
		{Keys: []uint64{2}, Act: 1, Args: []uint64{most}},
		{Keys: []uint64{4}, Act: 2, Args: []uint64{1, 0xABCDEF}},
	} {
		if code := b.q.Tabs[0].Add(e); code != 0 {
			t.Fatalf("Add tells %d", code)
		}
	}
	b.want(out(0, 0, 0x80, 4, 0, 3), 3, 0)
	b.want(out(0, 2, 0, 0xFF, 0xFF), 3, 2)
	b.want(out(0, 4, 1, 0xCD, 0xEF), 3, 4)
	b.want(out(0, 6), 3, 6)
}

// A table may name an action twice, and be asked at several nodes; what it said ahead counts for nothing.
func TestTablesAskedAgain(t *testing.T) {
	x := ref(0, 0)
	p := yard([]api.Action{
		with([]int{8}, set(x, get(x), said(0), step(api.PAdd))),
		act(set(x, get(x), num(100), step(api.PAdd))),
	}, ask(0, 1), ask(0, 2), ask(1, 3), ask(0, 4))
	p.States = []api.State{take(0, api.Accept)}
	p.Tabs = []api.Table{
		{Kind: api.KExact, Keys: []api.Ref{x}, Acts: []int{0, 1, 0, 1}, Cap: 4, Def: 1},
		{Kind: api.KExact, Keys: []api.Ref{x}, Acts: []int{0}, Cap: 4, Args: []uint64{1}},
	}
	b := lowered(t, "again", p)
	b.want(out(0, 45), 3, 0) // 100, 200, 201, 301
	b.q.Tabs[0].Add(api.Entry{Keys: []uint64{0}, Act: 0, Args: []uint64{7}})
	b.want(out(0, 208), 3, 0) // 7, 107, 108, 208
	b.q.Tabs[0].Add(api.Entry{Keys: []uint64{7}, Act: 0, Args: []uint64{9}})
	b.q.Tabs[1].Add(api.Entry{Keys: []uint64{16}, Act: 0, Args: []uint64{240}})
	b.want(out(0, 7), 3, 0) // 7, 16, 256, 7
}

// The tables may be others than those of a Pipe, if they are such tables.
func TestTablesOfOneOwn(t *testing.T) {
	x := ref(0, 0)
	p := yard([]api.Action{act(drop()), act()}, ask(0, 1))
	p.Tabs = []api.Table{{Kind: api.KExact, Keys: []api.Ref{x}, Acts: []int{0, 1}, Cap: 1, Def: 1}}
	m, _ := lower.Lower(p)
	s, f := store.New(p.Tabs[0], plan.Widths(p, p.Tabs[0]), p.Acts)
	if f != right || s.Add(api.Entry{Keys: []uint64{2}}) != 0 {
		t.Fatal("no table")
	}
	for b, want := range map[byte]api.Result{2: gone, 4: out(0, 4)} {
		if got, _, f := vm.Run(m, []*store.Store{s}, []byte{b}, 0); f != right || !alike(got, want) {
			t.Errorf("%d: %v %v, want %v", b, got, f, want)
		}
	}
}

func TestShapes(t *testing.T) {
	x := ref(0, 0)
	p := yard([]api.Action{act(), with([]int{8, 8}), act(), with([]int{8, 8, 8}), with([]int{8}), act(), act(), with([]int{1, 1, 1})})
	tab := func(keys, def int, acts ...int) api.Table {
		return api.Table{Kind: api.KExact, Keys: slices.Repeat([]api.Ref{x}, keys), Acts: acts, Def: def, Args: make([]uint64, len(p.Acts[def].W))}
	}
	p.Tabs = []api.Table{tab(1, 0, 0), tab(2, 1, 4, 1, 2), tab(3, 7, 7, 0), tab(1, 6, 5, 6, 5, 6), tab(2, 4, 4)}
	want := []api.Shape{{Keys: 1, Acts: 1}, {Keys: 2, Acts: 5, Args: 2}, {Keys: 3, Acts: 8, Args: 3}, {Keys: 1, Acts: 7}, {Keys: 2, Acts: 5, Args: 1}}
	if got := lower.Shapes(p); !slices.Equal(got, want) {
		t.Errorf("%v, want %v", got, want)
	}
	if m, f := lower.Lower(p); f != right || !slices.Equal(m.Tabs, want) {
		t.Errorf("of the program: %v %v, want %v", m.Tabs, f, want)
	}
	p.Tabs = nil
	if got := lower.Shapes(p); len(got) != 0 {
		t.Errorf("without tables: %v", got)
	}
}

// isNone asks whether a program is zero.
func isNone(p api.Program) bool { return p.Slots == 0 && len(p.Tabs) == 0 && len(p.Code) == 0 }

func TestFaults(t *testing.T) {
	x := ref(0, 0)
	tabs := []api.Table{{Kind: api.KExact, Keys: []api.Ref{x}, Acts: []int{0}}}
	fits := func() api.Plan {
		p := yard([]api.Action{act(set(x, num(1)))}, ask(0, 1), check(2, 2, num(0)))
		p.Tabs = slices.Clone(tabs)
		return p
	}
	for _, c := range []struct {
		name  string
		want  api.Fault
		spoil func(p *api.Plan)
	}{
		{"nothing", right, func(p *api.Plan) {}},
		{"many headers", fault(api.ErrMany, -1), func(p *api.Plan) { p.Heads = make([]api.Header, 7) }},
		{"a header", fault(api.ErrWidth, 1001), func(p *api.Plan) { p.Heads[1].W[1]++ }},
		{"many Meta", fault(api.ErrMany, -2), func(p *api.Plan) { p.Meta = make([]int, 5) }},
		{"Meta", fault(api.ErrWidth, 2001), func(p *api.Plan) { p.Meta[1] = 49 }},
		{"no states", fault(api.ErrMany, -3), func(p *api.Plan) { p.States = nil }},
		{"a state", fault(api.ErrRound, 3001), func(p *api.Plan) { p.States[1].Else = 1 }},
		{"many actions", fault(api.ErrMany, -4), func(p *api.Plan) { p.Acts = make([]api.Action, 9) }},
		{"an action", fault(api.ErrTree, 4000), func(p *api.Plan) { p.Acts[0].Ops[0].E = nil }},
		{"many tables", fault(api.ErrMany, -5), func(p *api.Plan) { p.Tabs = make([]api.Table, 6) }},
		{"a table", fault(api.ErrMany, 5000), func(p *api.Plan) { p.Tabs[0].Acts = nil }},
		{"many nodes", fault(api.ErrMany, -6), func(p *api.Plan) { p.Nodes = make([]api.Node, 11) }},
		{"a node", fault(api.ErrRange, 6001), func(p *api.Plan) { p.Nodes[1].No = 3 }},
		{"much goes out", fault(api.ErrMany, -7), func(p *api.Plan) { p.Out = make([]int, 7) }},
		{"what goes out", fault(api.ErrTwice, 7004), func(p *api.Plan) { p.Out[4] = 1 }},
		{"taken twice", fault(api.ErrTwice, 3001), func(p *api.Plan) { p.States[1].Head = 0 }},
		{"looked at what is not there", fault(api.ErrGone, 3000), func(p *api.Plan) { p.States[0].On = ref(2, 0) }},
		{"a key that is not there", fault(api.ErrGone, 6000), func(p *api.Plan) { p.Tabs[0].Keys = []api.Ref{ref(1, 0)} }},
		{"set what is not there", fault(api.ErrGone, 6000), func(p *api.Plan) { p.Acts[0].Ops[0].R = ref(1, 0) }},
		{"if by what is not there", fault(api.ErrGone, 6001), func(p *api.Plan) { p.Nodes[1].E = []api.Push{get(ref(1, 0))} }},
		{"all of it", fault(api.ErrMany, -3), func(p *api.Plan) { *p = api.Plan{} }},
	} {
		p := plan.Own(fits())
		c.spoil(&p)
		if f := flow.Check(p); f != c.want {
			t.Errorf("%s: flow.Check tells %v", c.name, f)
		}
		m, f := lower.Lower(p)
		if f != c.want || isNone(m) != (f != right) {
			t.Errorf("%s: %v %v, want %v", c.name, m, f, c.want)
		}
		if l := lower.Shapes(p); (len(l) == 1) != (f == right) {
			t.Errorf("%s: the Shapes %v", c.name, l)
		}
	}
}

// biggest tells a plan that has as much of everything as there may be: six headers of eight fields each, eight states with four cases each, and ten nodes that ask tables, each of which may say four actions with five deeds.
func biggest(deed api.Op) api.Plan {
	p := api.Plan{Meta: []int{48, 48, 48, 48}}
	for h := range api.MaxHeads {
		p.Heads = append(p.Heads, api.Header{W: []int{48, 17, 48, 17, 48, 17, 48, 13}})
		p.Out = append(p.Out, h)
	}
	for n := range api.MaxStates {
		s := look(n, ref(0, 1), n+1, when(1, 1, n+1), when(2, 2, n+1), when(4, 4, n+1), when(8, 8, n+1))
		if n >= api.MaxHeads {
			s.Head = -1
		}
		if n == api.MaxStates-1 {
			s = look(-1, ref(0, 1), api.Accept, when(1, 1, api.Accept), when(2, 2, api.Accept), when(4, 4, api.Accept), when(8, 8, api.Reject))
		}
		p.States = append(p.States, s)
	}
	for range api.MaxActs {
		p.Acts = append(p.Acts, with([]int{48, 48, 48}, slices.Repeat([]api.Op{deed}, api.MaxOps)...))
	}
	for n := range api.MaxTabs {
		p.Tabs = append(p.Tabs, api.Table{
			Kind: api.KTernary,
			Keys: []api.Ref{ref(n, 0), ref(n, 7), ref(-1, 3)},
			Acts: []int{n % 5, n%5 + 1, n%5 + 2, n%5 + 3},
			Def:  n % 5,
			Cap:  api.MaxCap,
			Args: []uint64{1<<48 - 1, 5, 1 << 47},
		})
	}
	for n := range api.MaxNodes {
		p.Nodes = append(p.Nodes, ask(n%api.MaxTabs, n+1))
	}
	return p
}

// There is room for every plan, whatever its deeds are.
func TestTheBiggest(t *testing.T) {
	e := []api.Push{said(2), get(ref(5, 7)), get(inPort), get(ref(-1, 3)), step(api.PAdd), step(api.PMul), step(api.PXor), step(api.PNot)}
	packet := make([]byte, api.MaxPacket)
	for i := range packet {
		packet[i] = byte(i*i + 1)
	}
	for _, deed := range []api.Op{
		total(ref(-1, 3), 5),
		total(ref(5, 0), 5),
		set(ref(5, 6), e...),
		set(ref(-1, 3), e...),
		port(e...),
		on(5),
		off(5),
		drop(),
	} {
		p := biggest(deed)
		b := lowered(t, "biggest", p)
		for n := range b.q.Tabs {
			for i := range uint64(api.MaxCap) {
				b.q.Tabs[n].Add(api.Entry{Keys: []uint64{i, 0, 0}, Masks: []uint64{15, 0, 0}, Act: p.Tabs[n].Acts[i%4], Args: []uint64{i, i, i << 40}})
			}
		}
		for _, long := range []int{0, 31, 32, 191, 192, 193, api.MaxPacket} {
			want, _ := b.q.Run(packet[:long], long)
			b.want(want, long, packet[:long]...)
			if goes := long >= 192 && deed.Kind != api.ODrop; goes != (want.Port >= 0) {
				t.Errorf("%d bytes, the deed %d: by %d", long, deed.Kind, want.Port)
			}
		}
	}
}

func TestMemory(t *testing.T) {
	p := plan.Own(biggest(total(ref(-1, 3), 5)))
	before := plan.Own(p)
	m, _ := lower.Lower(p)
	l := lower.Shapes(p)
	if !reflect.DeepEqual(p, before) {
		t.Error("the plan was changed")
	}
	again, _ := lower.Lower(before)
	if !reflect.DeepEqual(m, again) {
		t.Error("another program of the same plan")
	}
	p.Tabs[0].Acts[3], p.Acts[0].W, p.Heads[0].W[0] = 7, nil, 1
	clear(l)
	if !reflect.DeepEqual(m, again) {
		t.Error("the program hangs on what was done to the plan, or to the Shapes")
	}
	clear(m.Tabs)
	clear(m.Code)
	third, _ := lower.Lower(before)
	if !reflect.DeepEqual(third, again) {
		t.Error("a program hangs on what was done to another one")
	}
}

// A list without elements is the same, nil or empty.
func TestEmptyLists(t *testing.T) {
	full := api.Plan{
		Heads:  []api.Header{},
		Meta:   []int{},
		States: []api.State{{Head: -1, Cases: []api.Case{}, Else: api.Accept}},
		Acts:   []api.Action{{W: []int{}, Ops: []api.Op{}}},
		Tabs:   []api.Table{{Kind: api.KExact, Keys: []api.Ref{inPort}, Acts: []int{0}, Args: []uint64{}}},
		Nodes:  []api.Node{{Kind: api.NTable, Yes: 1, E: []api.Push{}}},
		Out:    []int{},
	}
	bare := api.Plan{
		States: []api.State{{Head: -1, Else: api.Accept}},
		Acts:   []api.Action{{}},
		Tabs:   []api.Table{{Kind: api.KExact, Keys: []api.Ref{inPort}, Acts: []int{0}}},
		Nodes:  []api.Node{{Kind: api.NTable, Yes: 1}},
	}
	a, b := lowered(t, "empty", full), lowered(t, "nil", bare)
	if !reflect.DeepEqual(a.program, b.program) {
		t.Errorf("%v, want %v", a.program, b.program)
	}
	b.want(out(0, bytes.Repeat([]byte{5}, api.MaxPacket)...), 0, bytes.Repeat([]byte{5}, api.MaxPacket)...)
	b.want(out(0), 0xFFFF)
}
