package pipe

import (
	"math"
	"math/big"
	"math/rand"
	"reflect"
	"slices"
	"strconv"
	"strings"
	"testing"

	"shuntyard/api"
	"shuntyard/flow"
	"shuntyard/plan"
)

// The model knows no numbers of 64 bits and no stack: headers and fields are texts of the digits 0 and 1, and expressions are read from their end on.

var round = new(big.Int).Lsh(big.NewInt(1), 64)

func number(digits string) *big.Int {
	v, _ := new(big.Int).SetString("0"+digits, 2)
	return v
}

// digits tells the last w digits of a number.
func digits(v *big.Int, w int) string {
	s := strings.Repeat("0", w) + v.Text(2)
	return s[len(s)-w:]
}

func digitsOf(b []byte) string {
	s := ""
	for _, x := range b {
		s += digits(big.NewInt(int64(x)), 8)
	}
	return s
}

func bytesOf(s string) []byte {
	var b []byte
	for ; s != ""; s = s[8:] {
		x, _ := strconv.ParseUint(s[:8], 2, 8)
		b = append(b, byte(x))
	}
	return b
}

// model is a packet on its way.
type model struct {
	p     api.Plan
	q     *Pipe // whose tables are asked for their entries
	rest  string
	has   map[int]string // by the numbers of headers that are there
	meta  string
	in    string
	args  []uint64
	port  int
	drop  bool
	seen  map[string]int // what came about
	short int            // how often a field was looked at that is not there
}

func (m *model) saw(what string) { m.seen[what]++ }

// place tells where a field stands among those of widths.
func place(w []int, f int) (int, int) {
	at := 0
	for _, x := range w[:f] {
		at += x
	}
	return at, at + w[f]
}

func (m *model) get(r api.Ref) string {
	if r.H == -2 {
		return strconv.FormatUint(m.args[r.F], 2)
	}
	if r.H == -3 {
		return m.in
	}
	if r.H == -1 {
		from, to := place(m.p.Meta, r.F)
		return m.meta[from:to]
	}
	if _, ok := m.has[r.H]; !ok {
		m.short++
		return ""
	}
	from, to := place(m.p.Heads[r.H].W, r.F)
	return m.has[r.H][from:to]
}

func (m *model) put(r api.Ref, v *big.Int) {
	if r.H == -1 {
		from, to := place(m.p.Meta, r.F)
		m.meta = m.meta[:from] + digits(v, to-from) + m.meta[to:]
		return
	}
	from, to := place(m.p.Heads[r.H].W, r.F)
	m.has[r.H] = m.has[r.H][:from] + digits(v, to-from) + m.has[r.H][to:]
}

// last tells the number that the end of an expression makes, and what stands ahead of that end.
func (m *model) last(e []api.Push) (*big.Int, []api.Push) {
	s, e := e[len(e)-1], e[:len(e)-1]
	switch s.Op {
	case 1:
		return new(big.Int).SetUint64(s.N), e
	case 2:
		return number(m.get(s.R)), e
	case 13:
		v, e := m.last(e)
		return new(big.Int).Sub(new(big.Int).Sub(round, big.NewInt(1)), v), e
	}
	b, e := m.last(e)
	a, e := m.last(e)
	return combined(s.Op, a, b), e
}

func (m *model) tree(e []api.Push) *big.Int {
	v, _ := m.last(e)
	return v
}

// combined tells what a step makes of two numbers below 2^64.
func combined(op int, a, b *big.Int) *big.Int {
	z := new(big.Int)
	far := b.Cmp(big.NewInt(64)) >= 0
	switch op {
	case 3:
		z.Add(a, b)
	case 4:
		z.Sub(a, b)
	case 5:
		z.Mul(a, b)
	case 6:
		z.And(a, b)
	case 7:
		z.Or(a, b)
	case 8:
		z.Xor(a, b)
	case 9:
		if !far {
			z.Lsh(a, uint(b.Int64()))
		}
	case 10:
		if !far {
			z.Rsh(a, uint(b.Int64()))
		}
	case 11:
		if a.Cmp(b) < 0 {
			z.SetInt64(1)
		}
	case 12:
		if a.Cmp(b) == 0 {
			z.SetInt64(1)
		}
	}
	return z.Mod(z, round)
}

// parse tells whether the packet was accepted.
func (m *model) parse() bool {
	n := 0
	for n < 1000 {
		s := m.p.States[n]
		if s.Head >= 0 {
			_, bits := place(m.p.Heads[s.Head].W, len(m.p.Heads[s.Head].W)-1)
			if len(m.rest) < bits {
				m.saw("short")
				return false
			}
			m.has[s.Head], m.rest = m.rest[:bits], m.rest[bits:]
		}
		n = s.Else
		for _, c := range slices.Backward(s.Cases) {
			v := number(m.get(s.On)).Uint64()
			if (v^c.Value)&c.Mask == 0 {
				n = c.To
				m.saw("case")
			}
		}
	}
	if n == 1001 {
		m.saw("refused")
	}
	return n == 1000
}

// fits asks whether keys fit an entry, and how well: the greater, the better.
func fits(kind int, e api.Entry, keys []string) (int, bool) {
	for i, k := range keys {
		want := digits(new(big.Int).SetUint64(e.Keys[i]), len(k))
		for j := range want {
			counts := true
			switch kind {
			case 2:
				counts = j < e.Len
			case 3:
				counts = digits(new(big.Int).SetUint64(e.Masks[i]), len(want))[j] == '1'
			}
			if counts && k[j] != want[j] {
				return 0, false
			}
		}
	}
	if kind == 3 {
		return -e.Prio, true
	}
	return e.Len, true
}

// says tells what a table says, one entry after the other being looked at.
func (m *model) says(n int) api.Hit {
	t := m.p.Tabs[n]
	var keys []string
	for _, r := range t.Keys {
		keys = append(keys, m.get(r))
	}
	hit, best, any := m.q.Tabs[n].Says(), 0, false
	for _, e := range m.q.Tabs[n].All() {
		if how, ok := fits(t.Kind, e, keys); ok && (!any || how > best) {
			hit, best, any = api.Hit{Act: e.Act, Args: e.Args}, how, true
		}
	}
	if any {
		m.saw("hit " + strconv.Itoa(t.Kind))
	} else {
		m.saw("miss " + strconv.Itoa(t.Kind))
	}
	return hit
}

// sum tells the sum of a header, whose field r is taken as 0.
func (m *model) sum(head int, r api.Ref) *big.Int {
	s := m.has[head]
	if r.H == head {
		from, to := place(m.p.Heads[head].W, r.F)
		s = s[:from] + strings.Repeat("0", to-from) + s[to:]
		m.saw("own sum")
	} else {
		m.saw("other sum")
	}
	if len(s)%16 != 0 {
		s += "00000000"
	}
	total := 0
	for ; s != ""; s = s[16:] {
		total += int(number(s[:16]).Int64())
	}
	if total > 0 {
		total = (total-1)%0xFFFF + 1
	}
	return big.NewInt(int64(0xFFFF - total))
}

func (m *model) deed(o api.Op) {
	_, was := m.has[o.Head]
	switch o.Kind {
	case 1:
		m.put(o.R, m.tree(o.E))
	case 2:
		if !was {
			_, bits := place(m.p.Heads[o.Head].W, len(m.p.Heads[o.Head].W)-1)
			m.has[o.Head] = strings.Repeat("0", bits)
			m.saw("on")
		}
	case 3:
		if was {
			m.saw("off")
		}
		delete(m.has, o.Head)
	case 4:
		m.drop = true
	case 5:
		m.port = int(number(digits(m.tree(o.E), 16)).Int64())
	case 6:
		m.put(o.R, m.sum(o.Head, o.R))
	}
}

func (m *model) do(act int, args []uint64) {
	m.args = args
	for _, o := range m.p.Acts[act].Ops {
		m.deed(o)
	}
	m.args = nil
}

// node does one, and tells where it leads.
func (m *model) node(x api.Node) int {
	yes := true
	switch x.Kind {
	case 1:
		hit := m.says(x.N)
		m.do(hit.Act, hit.Args)
	case 2:
		m.do(x.N, nil)
	case 3:
		yes = m.tree(x.E).Sign() != 0
		m.saw("if " + strconv.FormatBool(yes))
	case 4:
		_, yes = m.has[x.N]
		m.saw("there " + strconv.FormatBool(yes))
	}
	if yes {
		return x.Yes
	}
	return x.No
}

// modelRun tells what is to become of a packet.
func modelRun(t *testing.T, p api.Plan, q *Pipe, b []byte, port int, seen map[string]int) api.Result {
	m := &model{p: p, q: q, rest: digitsOf(b), has: map[int]string{}, in: digits(big.NewInt(int64(port)), 16), seen: seen}
	for _, w := range p.Meta {
		m.meta += strings.Repeat("0", w)
	}
	if !m.parse() {
		return gone
	}
	for n := 0; n < len(p.Nodes); {
		n = m.node(p.Nodes[n])
	}
	if m.short > 0 {
		t.Fatalf("%d fields were looked at that are not there: %+v", m.short, p)
	}
	if m.drop {
		m.saw("dropped")
		return gone
	}
	m.saw("out")
	s := ""
	for _, head := range p.Out {
		s += m.has[head]
	}
	return api.Result{Port: m.port, Bytes: bytesOf(s + m.rest)}
}

// maker makes plans at random, with which nothing is wrong.
type maker struct {
	*rand.Rand
	api.Plan
}

func (m *maker) one(l ...int) int { return l[m.Intn(len(l))] }

// some tells a number: of few bits, at an edge, or any.
func (m *maker) some() uint64 {
	switch m.Intn(4) {
	case 0:
		return 1<<m.Intn(64) - uint64(m.Intn(2))
	case 1:
		return m.Uint64()
	}
	return uint64(m.Intn(6))
}

// field tells a field, most often one of a header that was taken.
func (m *maker) field() api.Ref {
	h := m.one(api.InMeta, api.InPort, 0, 0, 0, m.Intn(len(m.Heads)))
	switch h {
	case api.InMeta:
		return ref(h, m.Intn(len(m.Meta)))
	case api.InPort:
		return ref(h, 0)
	}
	return ref(h, m.Intn(len(m.Heads[h].W)))
}

func (m *maker) target() api.Ref {
	if r := m.field(); r.H != api.InPort {
		return r
	}
	return inMeta
}

// tree makes an expression of at most eight steps; params is how many parameters there are.
func (m *maker) tree(params int) []api.Push {
	var e []api.Push
	depth, most := 0, 1+m.Intn(api.MaxTree)
	for len(e)+depth < most || depth == 0 {
		switch k := m.Intn(8); {
		case k < 4 && depth >= 2:
			e = append(e, step(3+m.Intn(10)))
			depth--
		case k == 4 && depth >= 1:
			e = append(e, step(api.PNot))
		case k == 5 && params > 0:
			e = append(e, get(ref(api.InArg, m.Intn(params))))
			depth++
		case k >= 6:
			e = append(e, num(m.some()))
			depth++
		default:
			e = append(e, get(m.field()))
			depth++
		}
	}
	for ; depth > 1; depth-- {
		e = append(e, step(3+m.Intn(10)))
	}
	return e
}

func (m *maker) action() api.Action {
	a := api.Action{}
	for range m.one(0, 0, 1, 2, 3) {
		a.W = append(a.W, 1+m.Intn(api.MaxWidth))
	}
	for range m.one(0, 1, 2, 3, 4, 5) {
		o := api.Op{Kind: m.one(1, 1, 1, 1, 2, 2, 3, 5, 5, 6, 6), R: m.target(), Head: m.Intn(len(m.Heads)), E: m.tree(len(a.W))}
		if m.Intn(30) == 0 {
			o.Kind = api.ODrop
		}
		if o.Kind == api.OSum && m.Intn(2) == 0 && o.R.H >= 0 {
			o.Head = o.R.H
		}
		a.Ops = append(a.Ops, o)
	}
	return a
}

// parser makes states that take other headers each, the first one the header 0 most often.
func (m *maker) parser() {
	states := 1 + m.Intn(len(m.Heads))
	for n := range states {
		s := api.State{Head: n, On: inPort, Else: m.place(n, states)}
		if m.Intn(6) == 0 {
			s.Head = -1
		}
		switch k := m.Intn(8); {
		case k == 0:
			s.On = inMeta
		case k < 7 && s.Head >= 0:
			s.On = ref(s.Head, m.Intn(len(m.Heads[s.Head].W)))
		}
		for range m.one(0, 1, 2, 3, 4) {
			mask := m.some() & m.some() & (1<<plan.Width(m.Plan, s.On, nil) - 1)
			s.Cases = append(s.Cases, api.Case{Value: m.some() & mask, Mask: mask, To: m.place(n, states)})
		}
		m.States = append(m.States, s)
	}
}

func (m *maker) place(n, states int) int {
	if n+1 < states && m.Intn(4) > 0 {
		return n + 1 + m.Intn(min(2, states-n-1))
	}
	return m.one(api.Accept, api.Accept, api.Accept, api.Accept, api.Accept, api.Reject)
}

// args tells numbers for the parameters of an action.
func (m *maker) args(act int) []uint64 {
	var l []uint64
	for _, w := range m.Acts[act].W {
		l = append(l, m.some()&(1<<w-1))
	}
	return l
}

func (m *maker) table() api.Table {
	t := api.Table{Kind: m.one(api.KExact, api.KPrefix, api.KTernary), Cap: m.Intn(17)}
	keys := 1
	if t.Kind != api.KPrefix {
		keys = m.one(1, 1, 2, 3)
	}
	for range keys {
		t.Keys = append(t.Keys, m.field())
	}
	for range 1 + m.Intn(4) {
		t.Acts = append(t.Acts, m.Intn(len(m.Acts)))
	}
	t.Def = t.Acts[m.Intn(len(t.Acts))]
	t.Args = m.args(t.Def)
	return t
}

// node makes one that leads to where x leads.
func (m *maker) node(x api.Node) api.Node {
	x.Kind, x.E = m.one(1, 1, 1, 2, 2, 3, 4), m.tree(0)
	many := []int{api.NTable: len(m.Tabs), api.NDo: len(m.Acts), api.NIf: 9, api.NThere: len(m.Heads)}
	x.N = m.Intn(many[x.Kind])
	return x
}

// control makes nodes that do nothing at first, and lets them do what nothing is wrong with.
func (m *maker) control() {
	nodes := m.Intn(api.MaxNodes + 1)
	for n := range nodes {
		onward := func() int { return min(nodes, n+m.one(1, 1, 1, 2, 3)) }
		m.Nodes = append(m.Nodes, check(onward(), onward(), get(inPort), num(1), step(api.PAnd)))
	}
	for n, x := range m.Nodes {
		for range 6 {
			if m.Nodes[n] = m.node(x); flow.Check(m.Plan) == right {
				break
			}
			m.Nodes[n] = x
		}
	}
}

func somePlan(r *rand.Rand) api.Plan {
	for {
		m := &maker{r, api.Plan{Meta: [][]int{{8}, {1, 48}, {3, 16, 4, 20}}[r.Intn(3)]}}
		for range 1 + r.Intn(6) {
			m.Heads = append(m.Heads, api.Header{W: [][]int{{8}, {4, 12}, {1, 7}, {48, 8, 8}, {3, 2, 3}, {16}, {5, 1, 2, 3, 4, 1, 7, 1}, {48, 48, 16}}[r.Intn(8)]})
		}
		m.parser()
		for range 1 + r.Intn(8) {
			m.Acts = append(m.Acts, m.action())
		}
		for range 1 + r.Intn(5) {
			m.Tabs = append(m.Tabs, m.table())
		}
		m.Out = r.Perm(len(m.Heads))[:r.Intn(len(m.Heads)+1)]
		if m.control(); flow.Check(m.Plan) == right {
			return m.Plan
		}
	}
}

// packet tells a packet, most often of few other numbers.
func packet(r *rand.Rand) []byte {
	b := make([]byte, []int{0, 1, 2, 3, 5, 10, 15, 20, 30, 30, 60, 60, 60}[r.Intn(13)])
	for i := range b {
		b[i] = []byte{0, 1, 2, 3, 0x40, 0x80, 0xFF, byte(r.Intn(256))}[r.Intn(8)]
	}
	return b
}

func somePort(r *rand.Rand) int { return []int{0, 1, 2, 0xFFFF, r.Intn(0x10000)}[r.Intn(5)] }

// entry tells one for a table, most often one that may be there.
func (m *maker) entry(n int) api.Entry {
	t := m.Tabs[n]
	e := api.Entry{Act: t.Acts[m.Intn(len(t.Acts))]}
	e.Args = m.args(e.Act)
	for _, w := range plan.Widths(m.Plan, t) {
		key := m.some() & (1<<w - 1)
		switch t.Kind {
		case api.KPrefix:
			e.Len = m.Intn(w + 1)
			key &^= 1<<(w-e.Len) - 1
		case api.KTernary:
			mask := m.some() & m.some() & (1<<w - 1)
			key &= mask
			e.Masks = append(e.Masks, mask)
			e.Prio = m.Intn(1001)
		}
		e.Keys = append(e.Keys, key)
	}
	return e
}

// change does anything to one of the tables.
func (m *maker) change(q *Pipe) {
	n := m.Intn(len(q.Tabs))
	e := m.entry(n)
	switch all := q.Tabs[n].All(); m.Intn(6) {
	case 0:
		q.Tabs[n].Default(api.Hit{Act: e.Act, Args: e.Args})
	case 1:
		if len(all) > 0 {
			q.Tabs[n].Drop(all[m.Intn(len(all))])
		}
	case 2:
		if len(all) > 0 {
			was := all[m.Intn(len(all))]
			was.Act, was.Args = e.Act, e.Args
			q.Tabs[n].Change(was)
		}
	default:
		q.Tabs[n].Add(e)
	}
}

func TestRunAgainstModel(t *testing.T) {
	r := rand.New(rand.NewSource(12))
	seen := map[string]int{}
	ports, long := 0, 0
	for range 4000 {
		p := somePlan(r)
		before := plan.Own(p)
		q := piped(t, "model", p)
		if !reflect.DeepEqual(plan.Own(p), before) {
			t.Fatalf("the plan was changed: %+v, then %+v", before, p)
		}
		m := &maker{r, p}
		for range 25 {
			b, port := packet(r), somePort(r)
			came := slices.Clone(b)
			want := modelRun(t, p, q, b, port, seen)
			got, f := q.Run(b, port)
			if f != right || !alike(got, want) {
				t.Fatalf("%v by %d: %v %v, want %v: %+v", b, port, got, f, want, p)
			}
			if !slices.Equal(b, came) {
				t.Fatalf("the packet was changed: %v, then %v", came, b)
			}
			if got.Port > 0 {
				ports++
			}
			if len(got.Bytes) > len(b) {
				long++
			}
			m.change(q)
		}
	}
	for _, what := range []string{"short", "case", "refused", "hit 1", "hit 2", "hit 3", "miss 1", "miss 2", "miss 3", "own sum", "other sum", "on", "off", "if true", "if false", "there true", "there false", "dropped", "out"} {
		if seen[what] < 500 {
			t.Errorf("%s came about %d times: too few", what, seen[what])
		}
	}
	if ports < 5000 || long < 2000 {
		t.Errorf("%d by ports that were said, %d longer than they came: too few", ports, long)
	}
}

func TestApplyAgainstModel(t *testing.T) {
	m := &maker{Rand: rand.New(rand.NewSource(2))}
	for range 100000 {
		op, a, b := m.Intn(16)-1, m.some(), m.some()
		want := uint64(0)
		if plan.Takes(op) == 2 {
			want = combined(op, new(big.Int).SetUint64(a), new(big.Int).SetUint64(b)).Uint64()
		}
		if got := Apply(op, a, b); got != want {
			t.Fatalf("the step %d of %#x and %#x: %#x, want %#x", op, a, b, got, want)
		}
	}
}

// spots tells every number and every list of a plan, wherever it stands.
func spots(v reflect.Value) []reflect.Value {
	var l []reflect.Value
	switch v.Kind() {
	case reflect.Struct:
		for i := range v.NumField() {
			l = append(l, spots(v.Field(i))...)
		}
		return l
	case reflect.Slice:
		l = append(l, v)
		for i := range v.Len() {
			l = append(l, spots(v.Index(i))...)
		}
		return l
	}
	return []reflect.Value{v}
}

// upset changes one number or one list.
func upset(r *rand.Rand, v reflect.Value) {
	switch v.Kind() {
	case reflect.Int:
		edges := []int{math.MinInt, -4, -3, -2, -1, 0, 1, 2, 3, 4, 5, 6, 7, 10, 11, 48, 63, 64, 65, 1000, 1001, math.MaxInt}
		v.SetInt(int64(edges[r.Intn(len(edges))]))
	case reflect.Uint64:
		v.SetUint([]uint64{0, 1, 1 << r.Intn(64), math.MaxUint64}[r.Intn(4)])
	case reflect.Slice:
		l := reflect.MakeSlice(v.Type(), r.Intn(12), 12)
		reflect.Copy(l, v)
		v.Set(l)
	}
}

// Whatever plan it is given, New tells flow.Check's fault, or a Pipe that does what the model does; whatever packet and port that is given, it ends.
func TestNewOfAnything(t *testing.T) {
	r := rand.New(rand.NewSource(35))
	refused, let := 0, 0
	for range 15000 {
		p := plan.Own(somePlan(r))
		for range 1 + r.Intn(3) {
			l := spots(reflect.ValueOf(&p).Elem())
			upset(r, l[r.Intn(len(l))])
		}
		q, f := New(p)
		if want := flow.Check(p); f != want || (q == nil) != (f != right) {
			t.Fatalf("%v %v, want %v: %+v", q, f, want, p)
		}
		if f != right {
			refused++
			continue
		}
		let++
		for range 5 {
			b, port := packet(r), somePort(r)
			want := modelRun(t, p, q, b, port, map[string]int{})
			if got, f := q.Run(b, port); f != right || !alike(got, want) {
				t.Fatalf("%v by %d: %v %v, want %v: %+v", b, port, got, f, want, p)
			}
			wild := []int{math.MinInt, -1, 0x10000, math.MaxInt}[r.Intn(4)]
			if got, f := q.Run(b, wild); f != fault(api.ErrRange, -1) || !alike(got, api.Result{}) {
				t.Fatalf("by %d: %v %v", wild, got, f)
			}
		}
	}
	if refused < 3000 || let < 3000 {
		t.Errorf("%d wrong plans, %d right ones: too few", refused, let)
	}
}

// What is done to a plan behind New counts for nothing, wherever it is done.
func TestNewKeepsNothingOfAny(t *testing.T) {
	r := rand.New(rand.NewSource(4))
	for range 1000 {
		p := plan.Own(somePlan(r))
		same := plan.Own(p)
		q := piped(t, "kept", p)
		for _, v := range spots(reflect.ValueOf(&p).Elem()) {
			switch v.Kind() {
			case reflect.Int:
				v.SetInt(5)
			case reflect.Uint64:
				v.SetUint(7)
			}
		}
		for range 5 {
			b, port := packet(r), somePort(r)
			want := modelRun(t, same, q, b, port, map[string]int{})
			tell(t, "the plan as it was", q, b, port, want)
		}
	}
}

// What lies behind a list's length is neither read nor written.
func TestNewBehindTheLength(t *testing.T) {
	r := rand.New(rand.NewSource(5))
	for range 300 {
		p := plan.Own(somePlan(r))
		same := plan.Own(p)
		var behind []reflect.Value
		// From within: a list that is copied takes along what was done to those that stand in it.
		for _, v := range slices.Backward(spots(reflect.ValueOf(&p).Elem())) {
			if v.Kind() != reflect.Slice {
				continue
			}
			n := v.Len()
			l := reflect.MakeSlice(v.Type(), n+3, n+3)
			reflect.Copy(l, v)
			for i := range 3 {
				for _, x := range spots(l.Index(n + i)) {
					if x.Kind() == reflect.Int {
						x.SetInt(1)
					}
					behind = append(behind, x)
				}
			}
			v.Set(l.Slice(0, n))
		}
		var before []any
		for _, v := range behind {
			before = append(before, v.Interface())
		}
		q := piped(t, "behind", p)
		for range 5 {
			b, port := packet(r), somePort(r)
			tell(t, "behind", q, b, port, modelRun(t, same, q, b, port, map[string]int{}))
		}
		for i, v := range behind {
			if !reflect.DeepEqual(v.Interface(), before[i]) {
				t.Fatalf("behind a list: %v, want %v", v.Interface(), before[i])
			}
		}
	}
}

// Packets know nothing of each other: in whatever order they come, each becomes the same.
func TestPacketsInAnyOrder(t *testing.T) {
	r := rand.New(rand.NewSource(6))
	for range 300 {
		p := somePlan(r)
		q := piped(t, "order", p)
		m := &maker{r, p}
		for range 10 {
			m.change(q)
		}
		type came struct {
			b    []byte
			port int
		}
		var l []came
		var first []api.Result
		for range 10 {
			l = append(l, came{packet(r), somePort(r)})
			got, _ := q.Run(l[len(l)-1].b, l[len(l)-1].port)
			first = append(first, got)
		}
		for _, i := range append(r.Perm(10), r.Perm(10)...) {
			tell(t, "in another order", q, l[i].b, l[i].port, first[i])
		}
	}
}
