package rig_test

import (
	"math"
	"math/rand"
	"slices"
	"testing"

	"shuntyard/api"
	"shuntyard/codec"
	"shuntyard/flow"
	"shuntyard/pipe"
	"shuntyard/plan"
	"shuntyard/rig"
)

// The model is the plan as package pipe runs it, with tables that are changed by hand: plans and scripts are made at random.

// maker makes steps for a plan.
type maker struct {
	*rand.Rand
	api.Plan
}

func (m *maker) one(l ...int) int { return l[m.Intn(len(l))] }

// somePlan makes one like the yard, with other tables, asked in whatever order, and a parser that may take both headers, or none.
func somePlan(r *rand.Rand) api.Plan {
	m := &maker{r, yard()}
	m.Meta = []int{1 + m.Intn(16)}
	m.States[0] = api.State{Head: m.one(-1, 0, 0, 0, 0), On: first, Cases: []api.Case{{Value: 1, Mask: 1, To: 1}}, Else: m.one(api.Accept, api.Accept, api.Reject, 1)}
	m.States = append(m.States, api.State{Head: 1, Else: api.Accept})
	if m.States[0].Head < 0 {
		m.States[0].On = inPort
	}
	m.Acts = append(m.Acts, api.Action{Ops: []api.Op{set(ref(api.InMeta, 0), get(ref(api.InMeta, 0)), get(inPort), plus()), port(get(ref(api.InMeta, 0)))}})
	m.Tabs, m.Nodes = nil, nil
	for range m.Intn(api.MaxTabs + 1) {
		m.Tabs = append(m.Tabs, m.table())
	}
	for n := range m.Tabs {
		m.Nodes = append(m.Nodes, api.Node{Kind: api.NTable, N: m.Intn(len(m.Tabs)), Yes: n + 1})
	}
	return m.Plan
}

func (m *maker) table() api.Table {
	t := api.Table{Kind: m.one(api.KExact, api.KPrefix, api.KTernary), Cap: m.one(0, 1, 2, 3, 5, api.MaxCap)}
	keys := 1
	if t.Kind != api.KPrefix {
		keys += m.Intn(api.MaxKeys)
	}
	for range keys {
		t.Keys = append(t.Keys, []api.Ref{first, first, inPort, ref(api.InMeta, 0)}[m.Intn(4)])
	}
	t.Acts = m.Perm(len(m.Acts))[:1+m.Intn(api.MaxSays)]
	t.Def = t.Acts[m.Intn(len(t.Acts))]
	t.Args = m.args(t.Def)
	return t
}

// args tells numbers for the parameters of an action.
func (m *maker) args(act int) []uint64 {
	var l []uint64
	for _, w := range m.Acts[act].W {
		l = append(l, uint64(m.one(0, 1, 3, 200, 0xFFFF))&(1<<w-1))
	}
	return l
}

// entry tells one that may stand in a table.
func (m *maker) entry(t api.Table) api.Entry {
	e := api.Entry{Act: t.Acts[m.Intn(len(t.Acts))]}
	e.Args = m.args(e.Act)
	for _, w := range plan.Widths(m.Plan, t) {
		key := uint64(m.Intn(6)) & (1<<w - 1)
		switch t.Kind {
		case api.KPrefix:
			e.Len = m.one(0, 1, w-1, w)
			key &^= 1<<(w-e.Len) - 1
		case api.KTernary:
			mask := uint64(m.one(0, 1, 2, 7)) & (1<<w - 1)
			key &= mask
			e.Masks = append(e.Masks, mask)
			e.Prio = m.one(0, 1, 2, api.MaxPrio)
		}
		e.Keys = append(e.Keys, key)
	}
	return e
}

// spoil lets something be wrong with an entry, as a rule.
func (m *maker) spoil(e *api.Entry) {
	switch m.Intn(7) {
	case 0:
		e.Keys = append(e.Keys, 1)
	case 1:
		e.Keys = []uint64{math.MaxUint64}
	case 2:
		e.Masks = append(e.Masks, 1)
	case 3:
		e.Len = m.one(-1, 1, 9, math.MaxInt)
	case 4:
		e.Prio = m.one(-1, 1, api.MaxPrio+1, math.MinInt)
	case 5:
		e.Act = m.one(-1, 0, 1, 2, 3, 4, 5)
	case 6:
		e.Args = append(e.Args, 1<<m.Intn(64))
	}
}

// step makes one of whatever kind; those of which all is there come most often.
func (m *maker) step() api.Step {
	s := api.Step{
		Kind: m.one(1, 1, 1, 1, 2, 2, 3, 4, 5, 6, 6, 6, 6, m.Intn(11)-2),
		Tab:  m.Intn(len(m.Tabs)+1) - m.Intn(2)*m.Intn(2),
		B:    make([]byte, m.one(0, 1, 1, 2, 2, 3, 5, api.MaxPacket)),
		Port: m.one(0, 1, 2, 3, 0xFFFF),
	}
	for i := range s.B {
		s.B[i] = byte(m.one(0, 1, 2, 3, 4, 5, 200, m.Intn(256)))
	}
	switch m.Intn(20) {
	case 0:
		s.B = append(s.B, make([]byte, api.MaxPacket)...)
	case 1:
		s.Port = m.one(-1, 0x10000, math.MinInt, math.MaxInt)
	}
	if s.Tab >= 0 && s.Tab < len(m.Tabs) {
		s.E = m.entry(m.Tabs[s.Tab])
	}
	if m.Intn(5) == 0 {
		m.spoil(&s.E)
	}
	return s
}

// plain tells what the chapter says of a step, by a Pipe.
func plain(q *pipe.Pipe, s api.Step) api.Reply {
	if s.Kind == api.SSend {
		res, f := q.Run(s.B, s.Port)
		return api.Reply{Code: f.Code, R: res}
	}
	if !slices.Contains([]int{api.SAdd, api.SChange, api.SDrop, api.SDefault, api.SRead}, s.Kind) {
		return told(api.ErrKind)
	}
	for n, t := range q.Tabs {
		if n != s.Tab {
			continue
		}
		switch s.Kind {
		case api.SAdd:
			return told(t.Add(s.E))
		case api.SChange:
			return told(t.Change(s.E))
		case api.SDrop:
			return told(t.Drop(s.E))
		case api.SDefault:
			return told(t.Default(api.Hit{Act: s.E.Act, Args: s.E.Args}))
		}
		return has(t.Says().Act, t.Says().Args, t.All()...)
	}
	return told(api.ErrRange)
}

// tables tells what all the tables have.
func (m *maker) tables(r *rig.Rig) []api.Reply {
	var l []api.Reply
	for tab := range m.Tabs {
		l = append(l, r.Do(read(tab)))
	}
	return l
}

// Scripts are replied to as the plan would, and a step whose Code is not 0 changes nothing.
func TestScripts(t *testing.T) {
	r := rand.New(rand.NewSource(18))
	seen := map[[2]int]int{} // by kind and code
	out, plans := 0, 0
	for range 2500 {
		p := somePlan(r)
		q, f := pipe.New(p)
		x, g := rig.New(p)
		if f != g || (x == nil) != (f != right) {
			t.Fatalf("%v %v, want %v: %+v", x, g, f, p)
		}
		if f != right {
			continue
		}
		plans++
		m := &maker{r, p}
		for range 60 {
			s := m.step()
			before := m.tables(x)
			got, want := x.Do(s), plain(q, s)
			if !sameReply(got, want) {
				t.Fatalf("%+v: %+v, want %+v: %+v", s, got, want, p)
			}
			if got.Code != 0 && !slices.EqualFunc(m.tables(x), before, sameReply) {
				t.Fatalf("%+v changed the tables, of %+v", s, p)
			}
			if got.R.Port > 0 && len(got.R.Bytes) > 0 {
				out++
			}
			seen[[2]int{s.Kind, got.Code}]++
		}
	}
	enough(t, seen)
	if out < 5000 || plans < 1000 || plans > 2200 {
		t.Errorf("%d plans were right; %d packets went out by a port above 0", plans, out)
	}
}

// enough asks whether each kind of step was done, and told each code that it may tell.
func enough(t *testing.T, seen map[[2]int]int) {
	t.Helper()
	place := []int{0, api.ErrRange, api.ErrMany, api.ErrForm, api.ErrWidth, api.ErrNone}
	for kind, codes := range map[int][]int{
		api.SAdd:     {0, api.ErrRange, api.ErrMany, api.ErrForm, api.ErrWidth, api.ErrKind, api.ErrTwice, api.ErrClash, api.ErrFull},
		api.SChange:  append(place, api.ErrKind),
		api.SDrop:    place,
		api.SDefault: {0, api.ErrRange, api.ErrKind, api.ErrMany},
		api.SRead:    {0, api.ErrRange},
		api.SSend:    {0, api.ErrRange, api.ErrLong},
		0:            {api.ErrKind},
		-1:           {api.ErrKind},
		7:            {api.ErrKind},
	} {
		for _, code := range codes {
			if n := seen[[2]int{kind, code}]; n < 20 {
				t.Errorf("kind %d told %d only %d times", kind, code, n)
			}
		}
	}
}

// Load of a plan's bytes is New of that plan; of other bytes it tells codec's fault.
func TestLoadOfAnything(t *testing.T) {
	r := rand.New(rand.NewSource(19))
	loaded, refused := 0, 0
	for range 1500 {
		p := somePlan(r)
		b, f := codec.Encode(p)
		if f != right {
			t.Fatalf("Encode tells %v: %+v", f, p)
		}
		if r.Intn(2) == 0 {
			at := r.Intn(len(b) - 4)
			b[at] ^= 1 << r.Intn(8)
			sum := codec.Sum(b[:len(b)-4])
			b = append(b[:len(b)-4], byte(sum), byte(sum>>8), byte(sum>>16), byte(sum>>24))
		}
		p, want := codec.Decode(b)
		if want == right {
			want = flow.Check(p)
		}
		x, f := rig.Load(b)
		if f != want || (x == nil) != (want != right) {
			t.Fatalf("%v %v, want %v: %v", x, f, want, b)
		}
		if f != right {
			refused++
			continue
		}
		loaded++
		m, other := &maker{r, p}, rigged(t, p)
		for range 10 {
			s := m.step()
			other.want(x.Do(s), s)
		}
		if !sameProgram(x.Program(), other.Program()) {
			t.Fatalf("%v, want %v", x.Program(), other.Program())
		}
	}
	if loaded < 300 || refused < 300 {
		t.Errorf("%d were loaded, %d refused: too few", loaded, refused)
	}
}
