package twin_test

import (
	"math"
	"math/rand"
	"testing"

	"shuntyard/api"
	"shuntyard/flow"
	"shuntyard/pack"
	"shuntyard/pipe"
	"shuntyard/plan"
	"shuntyard/rig"
	"shuntyard/twin"
)

// The model is a Rig and a Pipe that know nothing of each other, and replies that are held against each other by hand: plans and scripts are made at random.

// maker makes plans with which nothing is wrong, and steps for them.
type maker struct {
	*rand.Rand
	api.Plan
}

func (m *maker) one(l ...int) int { return l[m.Intn(len(l))] }

// some tells a number: of few bits, at an edge, or any.
func (m *maker) some() uint64 {
	switch m.Intn(5) {
	case 0:
		return 1<<m.Intn(64) - uint64(m.Intn(2))
	case 1:
		return m.Uint64()
	}
	return uint64(m.Intn(5))
}

// narrow tells a number of so many bits.
func (m *maker) narrow(w int) uint64 { return m.some() & (1<<w - 1) }

// header makes one of whatever widths.
func (m *maker) header() api.Header {
	most := m.one(2, 6, 12, 20, api.MaxWidth)
	for {
		h := api.Header{}
		for range 1 + m.Intn(api.MaxFields) {
			h.W = append(h.W, 1+m.Intn(most))
		}
		if _, f := pack.Size(h); f == right {
			return h
		}
	}
}

// field tells a field, most often one of the header 0.
func (m *maker) field() api.Ref {
	h := m.one(api.InMeta, api.InPort, 0, 0, 0, m.Intn(len(m.Heads)))
	if h == api.InMeta && len(m.Meta) > 0 {
		return ref(h, m.Intn(len(m.Meta)))
	}
	if h < 0 {
		return inPort
	}
	return ref(h, m.Intn(len(m.Heads[h].W)))
}

// target tells a field that can be set.
func (m *maker) target() api.Ref {
	for {
		if r := m.field(); r.H != api.InPort {
			return r
		}
	}
}

// leaf tells a step that takes nothing; params is how many parameters there are.
func (m *maker) leaf(params int) api.Push {
	switch {
	case params > 0 && m.Intn(2) == 0:
		return said(m.Intn(params))
	case m.Intn(2) == 0:
		return num(m.some())
	}
	return get(m.field())
}

// tree makes an expression of at most eight steps.
func (m *maker) tree(params int) []api.Push {
	e := []api.Push{m.leaf(params)}
	for range m.Intn(4) {
		if m.Intn(5) == 0 {
			e = append(e, op(api.PNot))
		} else {
			e = append(e, m.leaf(params), op(api.PAdd+m.Intn(api.PEq-api.PAdd+1)))
		}
	}
	return e
}

func (m *maker) action() api.Action {
	a := api.Action{}
	for range m.one(0, 0, 1, 2, 3) {
		a.W = append(a.W, 1+m.Intn(api.MaxWidth))
	}
	for range m.Intn(api.MaxOps + 1) {
		o := api.Op{Kind: m.one(1, 1, 1, 2, 2, 3, 5, 5, 6, 6), R: m.target(), Head: m.Intn(len(m.Heads)), E: m.tree(len(a.W))}
		if m.Intn(40) == 0 {
			o.Kind = api.ODrop
		}
		a.Ops = append(a.Ops, o)
	}
	return a
}

// parser makes states that take headers one behind the other, and may go past some; those that nothing is wrong with are kept.
func (m *maker) parser() {
	m.States = []api.State{{Head: m.one(-1, 0, 0, 0, 0, 0), Else: api.Accept}}
	for n := range m.Heads[1:] {
		m.States = append(m.States, api.State{Head: n + 1, Else: api.Accept})
	}
	for n, s := range m.States {
		onward := func() int {
			if n+1 < len(m.States) && m.Intn(4) > 0 {
				return n + 1
			}
			return m.one(api.Accept, api.Accept, api.Accept, api.Reject)
		}
		m.States[n].Else = onward()
		for range 8 {
			x := api.State{Head: s.Head, On: m.field(), Else: m.States[n].Else}
			for range m.Intn(api.MaxCases + 1) {
				mask := m.some() & m.narrow(plan.Width(m.Plan, x.On, nil))
				x.Cases = append(x.Cases, api.Case{Value: m.some() & mask, Mask: mask, To: onward()})
			}
			was := m.States[n]
			if m.States[n] = x; flow.Check(m.Plan) == right {
				break
			}
			m.States[n] = was
		}
	}
}

// args tells numbers for the parameters of an action.
func (m *maker) args(act int) []uint64 {
	var l []uint64
	for _, w := range m.Acts[act].W {
		l = append(l, m.narrow(w))
	}
	return l
}

func (m *maker) table() api.Table {
	t := api.Table{Kind: m.one(api.KExact, api.KPrefix, api.KTernary), Cap: m.one(0, 1, 2, 3, 8, api.MaxCap)}
	keys := 1
	if t.Kind != api.KPrefix {
		keys = m.one(1, 1, 2, 3)
	}
	for range keys {
		t.Keys = append(t.Keys, m.field())
	}
	for range 1 + m.Intn(api.MaxSays) {
		t.Acts = append(t.Acts, m.Intn(len(m.Acts)))
	}
	t.Def = t.Acts[m.Intn(len(t.Acts))]
	t.Args = m.args(t.Def)
	return t
}

// control makes nodes that do nothing at first, and lets them do what nothing is wrong with.
func (m *maker) control() {
	nodes := 1 + m.Intn(api.MaxNodes)
	for n := range nodes {
		onward := func() int { return min(nodes, n+m.one(1, 1, 1, 2)) }
		m.Nodes = append(m.Nodes, api.Node{Kind: api.NIf, E: []api.Push{get(inPort), num(1), op(api.PAnd)}, Yes: onward(), No: onward()})
	}
	many := []int{api.NTable: len(m.Tabs), api.NDo: len(m.Acts), api.NIf: 9, api.NThere: len(m.Heads)}
	for n, was := range m.Nodes {
		for range 8 {
			x := was
			x.Kind, x.E = m.one(1, 1, 1, 1, 2, 3, 4), m.tree(0)
			x.N = m.Intn(many[x.Kind])
			if m.Nodes[n] = x; flow.Check(m.Plan) == right {
				break
			}
			m.Nodes[n] = was
		}
	}
}

// someMaker tells a maker of a plan with at least one header, action and table.
func someMaker(r *rand.Rand) *maker {
	m := &maker{Rand: r}
	for range r.Intn(api.MaxMeta + 1) {
		m.Meta = append(m.Meta, 1+r.Intn(api.MaxWidth))
	}
	for range 1 + r.Intn(api.MaxHeads) {
		m.Heads = append(m.Heads, m.header())
	}
	m.parser()
	for range 1 + r.Intn(api.MaxActs) {
		m.Acts = append(m.Acts, m.action())
	}
	for range 1 + r.Intn(api.MaxTabs) {
		m.Tabs = append(m.Tabs, m.table())
	}
	m.Out = r.Perm(len(m.Heads))[:r.Intn(len(m.Heads)+1)]
	m.control()
	return m
}

// entry tells one that may stand in a table.
func (m *maker) entry(t api.Table) api.Entry {
	e := api.Entry{Act: t.Acts[m.Intn(len(t.Acts))]}
	e.Args = m.args(e.Act)
	for _, w := range plan.Widths(m.Plan, t) {
		key := m.narrow(w)
		switch t.Kind {
		case api.KPrefix:
			e.Len = m.one(0, 1, w-1, w)
			key &^= 1<<(w-e.Len) - 1
		case api.KTernary:
			mask := m.some() & m.narrow(w)
			key &= mask
			e.Masks = append(e.Masks, mask)
			e.Prio = m.one(0, 1, 2, api.MaxPrio)
		}
		e.Keys = append(e.Keys, key)
	}
	return e
}

// upset lets something be wrong with an entry, as a rule.
func (m *maker) upset(e *api.Entry) {
	switch m.Intn(7) {
	case 0:
		e.Keys = append(e.Keys, 1)
	case 1:
		e.Keys = []uint64{math.MaxUint64}
	case 2:
		e.Masks = append(e.Masks, 1)
	case 3:
		e.Len = m.one(-1, 1, 49, math.MaxInt)
	case 4:
		e.Prio = m.one(-1, 1, api.MaxPrio+1, math.MinInt)
	case 5:
		e.Act = m.Intn(api.MaxActs+2) - 1
	case 6:
		e.Args = append(e.Args, 1<<m.Intn(64))
	}
}

// packet tells one, most often of few other numbers.
func (m *maker) packet() []byte {
	b := make([]byte, m.one(0, 1, 2, 3, 5, 10, 20, 40, 60, 100, 150, 200, api.MaxPacket))
	for i := range b {
		b[i] = byte(m.one(0, 0, 1, 2, 3, 0x40, 0x80, 0xFF, m.Intn(256)))
	}
	return b
}

// step makes one of whatever kind; those of which all is there come most often.
func (m *maker) step() api.Step {
	s := api.Step{
		Kind: m.one(1, 1, 1, 1, 2, 3, 4, 5, 6, 6, 6, 6, 6),
		Tab:  m.Intn(len(m.Tabs)),
		B:    m.packet(),
		Port: m.one(0, 1, 2, 3, 0xFFFF, m.Intn(0x10000)),
	}
	s.E = m.entry(m.Tabs[s.Tab])
	switch m.Intn(40) {
	case 0:
		s.B = append(s.B, make([]byte, api.MaxPacket)...)
	case 1:
		s.Port = m.one(-1, 0x10000, math.MinInt, math.MaxInt)
	case 2:
		s.Tab = m.one(-1, len(m.Tabs), math.MinInt, math.MaxInt)
	case 3:
		s.Kind = m.one(-1, 0, 7, 8, math.MinInt, math.MaxInt)
	case 4, 5, 6, 7:
		m.upset(&s.E)
	}
	return s
}

// script makes some steps; many of them are of entries that were named ahead.
func (m *maker) script(long int) []api.Step {
	var l []api.Step
	for range long {
		s := m.step()
		if len(l) > 0 && m.Intn(3) == 0 {
			was := l[m.Intn(len(l))]
			s.Tab, s.E = was.Tab, was.E
		}
		l = append(l, s)
	}
	return l
}

// byHand tells what the chapters say of a step, by a Pipe.
func byHand(q *pipe.Pipe, s api.Step) api.Reply {
	if s.Kind == api.SSend {
		res, f := q.Run(s.B, s.Port)
		return api.Reply{Code: f.Code, R: res}
	}
	if s.Kind < 1 || s.Kind > 5 {
		return told(api.ErrKind)
	}
	for n, t := range q.Tabs {
		if n != s.Tab {
			continue
		}
		switch s.Kind {
		case api.SAdd:
			return told(t.Add(s.E))
		case api.SChange:
			return told(t.Change(s.E))
		case api.SDrop:
			return told(t.Drop(s.E))
		case api.SDefault:
			return told(t.Default(api.Hit{Act: s.E.Act, Args: s.E.Args}))
		}
		return has(t.Says().Act, t.Says().Args, t.All()...)
	}
	return told(api.ErrRange)
}

// model is what a Twin is held against.
type model struct {
	*rig.Rig
	q *pipe.Pipe
}

// run tells what the chapter says of a script.
func (m model) run(l []api.Step) ([]api.Reply, api.Fault) {
	var out []api.Reply
	for i, s := range l {
		a, b := m.Do(s), byHand(m.q, s)
		if !alike(a, b) {
			return nil, fault(api.ErrSum, i)
		}
		out = append(out, a)
	}
	return out, right
}

// modelOf tells a Twin of a right plan, and the model of it.
func modelOf(t *testing.T, p api.Plan) (tester, model) {
	t.Helper()
	x, f := rig.New(p)
	q, g := pipe.New(p)
	if f != right || g != right {
		t.Fatalf("%v, %v: %+v", f, g, p)
	}
	return twins(t, p), model{x, q}
}

// Do, Plain and Run, in whatever order, are as the model's; where Do and Plain were asked for other steps, Run tells where that is seen.
func TestLikeTheModel(t *testing.T) {
	r := rand.New(rand.NewSource(19))
	right, apart, later := 0, 0, 0
	for range 800 {
		m := someMaker(r)
		w, x := modelOf(t, m.Plan)
		once := m.Intn(2) // half of the plans are asked one way alone now and then
		for range 12 {
			l := m.script(m.Intn(20))
			switch k := m.Intn(6); {
			case k == 0 && once == 0:
				for _, s := range l {
					w.wantDo(x.Do(s), s)
				}
			case k == 1 && once == 0:
				for _, s := range l {
					w.wantPlain(byHand(x.q, s), s)
				}
			default:
				want, f := x.run(l)
				got, g := w.Run(l)
				if f != g || !alike(got, want) {
					t.Fatalf("%+v: %+v %v, want %+v %v: %+v", l, got, g, want, f, m.Plan)
				}
				switch {
				case f.Code == 0:
					right++
				case f.At > 0:
					later++
				default:
					apart++
				}
				if f.Code != 0 && once == 1 {
					t.Fatalf("%v of twins: %+v", f, m.Plan)
				}
			}
		}
	}
	if right < 5000 || apart < 100 || later < 300 {
		t.Errorf("%d scripts were right, %d were not at 0, %d later: too few", right, apart, later)
	}
}

// seen counts the replies by kind and code, and what became of packets.
type seen struct {
	codes              map[[2]int]int
	out, changed, gone int
}

func (c *seen) count(s api.Step, r api.Reply) {
	c.codes[[2]int{s.Kind, r.Code}]++
	if s.Kind != api.SSend || r.Code != 0 {
		return
	}
	switch {
	case r.R.Port < 0:
		c.gone++
	case alike(r.R.Bytes, s.B):
		c.out++
	default:
		c.changed++
	}
}

// enough asks whether each kind of step was done, and told each code that it may tell.
func (c *seen) enough(t *testing.T) {
	t.Helper()
	place := []int{0, api.ErrRange, api.ErrMany, api.ErrForm, api.ErrWidth, api.ErrNone}
	for kind, codes := range map[int][]int{
		api.SAdd:     {0, api.ErrRange, api.ErrMany, api.ErrForm, api.ErrWidth, api.ErrKind, api.ErrTwice, api.ErrClash, api.ErrFull},
		api.SChange:  append(place, api.ErrKind),
		api.SDrop:    place,
		api.SDefault: {0, api.ErrRange, api.ErrKind, api.ErrMany},
		api.SRead:    {0, api.ErrRange},
		api.SSend:    {0, api.ErrRange, api.ErrLong},
		0:            {api.ErrKind},
		7:            {api.ErrKind},
	} {
		for _, code := range codes {
			if n := c.codes[[2]int{kind, code}]; n < 20 {
				t.Errorf("kind %d told %d only %d times", kind, code, n)
			}
		}
	}
	if c.out < 2000 || c.changed < 5000 || c.gone < 5000 {
		t.Errorf("%d packets went out as they came, %d changed, %d nowhere: too few", c.out, c.changed, c.gone)
	}
}

// Twins that were asked for the same steps never reply otherwise, by whatever plan.
func TestNeverOtherwise(t *testing.T) {
	r := rand.New(rand.NewSource(20))
	c := &seen{codes: map[[2]int]int{}}
	for range 700 {
		m := someMaker(r)
		w := twins(t, m.Plan)
		l := m.script(m.one(1, 40, 100, 200, api.MaxActsDo))
		got, f := w.Run(l)
		if f != right || len(got) != len(l) {
			t.Fatalf("%v, and %d replies to %d steps: %+v, %+v", f, len(got), len(l), m.Plan, l)
		}
		for i, s := range l {
			c.count(s, got[i])
		}
	}
	c.enough(t)
}

// Whichever of Do and Plain is ahead, behind the same steps both are the same again.
func TestWhicheverIsAhead(t *testing.T) {
	r := rand.New(rand.NewSource(21))
	for range 500 {
		m := someMaker(r)
		w := twins(t, m.Plan)
		l := m.script(1 + m.Intn(60))
		var done, plain []api.Reply
		for len(done) < len(l) || len(plain) < len(l) {
			if len(done) < len(l) && (len(plain) == len(l) || m.Intn(2) == 0) {
				done = append(done, w.Do(l[len(done)]))
			} else {
				plain = append(plain, w.Plain(l[len(plain)]))
			}
		}
		for i := range l {
			if !alike(done[i], plain[i]) || !twin.Same(done[i], plain[i]) {
				t.Fatalf("%+v: %+v and %+v: %+v", l[i], done[i], plain[i], m.Plan)
			}
		}
		if _, f := w.Run(m.script(30)); f != right {
			t.Fatalf("%v: %+v", f, m.Plan)
		}
	}
}

// A step whose Code is not 0 changes neither way's tables.
func TestCodesChangeNothing(t *testing.T) {
	r := rand.New(rand.NewSource(22))
	refused := 0
	for range 150 {
		m := someMaker(r)
		w := twins(t, m.Plan)
		tables := func() [2][]api.Reply {
			var l [2][]api.Reply
			for tab := range m.Tabs {
				l[0], l[1] = append(l[0], w.Do(read(tab))), append(l[1], w.Plain(read(tab)))
			}
			return l
		}
		for _, s := range m.script(40) {
			before := tables()
			got, f := w.Run([]api.Step{s})
			if f != right || len(got) != 1 {
				t.Fatalf("%v %+v: %+v", f, got, m.Plan)
			}
			if got[0].Code == 0 {
				continue
			}
			refused++
			if now := tables(); !alike(now[0], before[0]) || !alike(now[1], before[1]) {
				t.Fatalf("%+v changed %+v to %+v", s, before, now)
			}
		}
	}
	if refused < 1000 {
		t.Errorf("only %d steps were refused", refused)
	}
}
