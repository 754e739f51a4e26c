package codec

import (
	"bytes"
	"hash/crc32"
	"math/big"
	"math/rand"
	"reflect"
	"slices"
	"strings"
	"testing"

	"shuntyard/api"
	"shuntyard/plan"
)

// The model knows the form of a thing by the names of its fields, in their order, and works with numbers of any size. A state is the one thing that it knows by itself.

// forms are the fields of things that are all alike, kinds those behind the fronts of things that hang on a kind, which is the first of the fronts.
var (
	forms = map[string][]string{
		"Plan":   {"Heads", "Meta", "States", "Acts", "Tabs", "Nodes", "Out"},
		"Header": {"W"},
		"Ref":    {"H", "F"},
		"Case":   {"Value", "Mask", "To"},
		"Action": {"W", "Ops"},
		"Table":  {"Kind", "Keys", "Acts", "Cap", "Def", "Args"},
	}
	fronts = map[string][]string{"Op": {"Kind"}, "Push": {"Op"}, "Node": {"Kind", "Yes"}}
	kinds  = map[string]map[int64][]string{
		"Op":   {1: {"R", "E"}, 2: {"Head"}, 3: {"Head"}, 5: {"E"}, 6: {"R", "Head"}},
		"Push": {1: {"N"}, 2: {"R"}},
		"Node": {3: {"E", "No"}, 4: {"N", "No"}},
	}
)

// behind tells which fields of a thing are written behind its fronts.
func behind(v reflect.Value) []string {
	thing := v.Type().Name()
	if form, ok := forms[thing]; ok {
		return form
	}
	form, ok := kinds[thing][v.FieldByName(fronts[thing][0]).Int()]
	if !ok && thing == "Node" {
		return []string{"N"}
	}
	return form
}

// spelled tells the bytes of anything, right or not.
func spelled(v reflect.Value) []byte {
	switch v.Kind() {
	case reflect.Int:
		n := big.NewInt(v.Int())
		n.Mul(n, big.NewInt(2))
		if n.Sign() < 0 {
			n.Neg(n).Sub(n, big.NewInt(1))
		}
		return groups(n)
	case reflect.Uint64:
		return groups(new(big.Int).SetUint64(v.Uint()))
	case reflect.Slice:
		b := spelled(reflect.ValueOf(v.Len()))
		for i := range v.Len() {
			b = append(b, spelled(v.Index(i))...)
		}
		return b
	}
	if s, ok := v.Interface().(api.State); ok {
		cases := spelled(reflect.ValueOf(s.Cases))
		on := spelled(reflect.ValueOf(s.On))
		if len(s.Cases) == 0 {
			on = nil
		}
		many := len(spelled(reflect.ValueOf(len(s.Cases))))
		return slices.Concat(spelled(reflect.ValueOf(s.Head)), cases[:many], on, cases[many:], spelled(reflect.ValueOf(s.Else)))
	}
	var b []byte
	for _, name := range slices.Concat(fronts[v.Type().Name()], behind(v)) {
		b = append(b, spelled(v.FieldByName(name))...)
	}
	return b
}

// groups tells a number's bytes by the digits of its text of 0s and 1s.
func groups(n *big.Int) []byte {
	text := n.Text(2)
	text = strings.Repeat("0", (7-len(text)%7)%7) + text
	var b []byte
	for len(text) > 0 {
		group, _ := new(big.Int).SetString(text[len(text)-7:], 2)
		text = text[:len(text)-7]
		if len(text) > 0 {
			group.Add(group, big.NewInt(128))
		}
		b = append(b, byte(group.Int64()))
	}
	return b
}

// modelEncode tells the bytes of a plan, right or not, with their sum.
func modelEncode(p api.Plan) []byte {
	return framed(spelled(reflect.ValueOf(p))...)
}

// eater eats bytes from the front; at is where the first stands, fault the first thing that was wrong.
type eater struct {
	rest  []byte
	at    int
	fault api.Fault
}

// wrong notes a fault, if there is none yet.
func (e *eater) wrong(code, at int) {
	if e.fault == right {
		e.fault = fault(code, at)
	}
}

// plain eats a number of any size, then looks whether it may be one.
func (e *eater) plain() *big.Int {
	n, long := new(big.Int), slices.IndexFunc(e.rest, func(b byte) bool { return b < 128 })+1
	whole := long > 0
	if !whole {
		long = len(e.rest)
	}
	for i := long - 1; i >= 0; i-- {
		n.Mul(n, big.NewInt(128)).Add(n, big.NewInt(int64(e.rest[i]%128)))
	}
	switch {
	case long > 9 && (long > 10 || e.rest[9] != 1):
		e.wrong(api.ErrRange, e.at+9)
	case !whole:
		e.wrong(api.ErrShort, e.at+long)
	case long > 1 && e.rest[long-1] == 0:
		e.wrong(api.ErrRange, e.at+long-1)
	}
	e.rest, e.at = e.rest[long:], e.at+long
	return n
}

// number eats a number with a sign; what is behind a fault does not matter.
func (e *eater) number() int64 {
	n := e.plain()
	odd := n.Bit(0) == 1
	n.Rsh(n, 1)
	if odd {
		n.Neg(n).Sub(n, big.NewInt(1))
	}
	if !n.IsInt64() {
		return 0
	}
	return n.Int64()
}

// count eats how many there are; none, if it is wrong.
func (e *eater) count() int {
	from := e.at
	n := e.number()
	if n < 0 || n > int64(len(e.rest)) {
		e.wrong(api.ErrMany, from)
	}
	if e.fault != right {
		return 0
	}
	return int(n)
}

// into eats whatever v is, into v.
func (e *eater) into(v reflect.Value) {
	if e.fault != right {
		return
	}
	switch v.Kind() {
	case reflect.Int:
		v.SetInt(e.number())
		return
	case reflect.Uint64:
		if n := e.plain(); n.IsUint64() {
			v.SetUint(n.Uint64())
		}
		return
	case reflect.Slice:
		e.elements(v, e.count())
		return
	}
	if s, ok := v.Addr().Interface().(*api.State); ok {
		e.state(v, s)
		return
	}
	for _, name := range fronts[v.Type().Name()] {
		e.into(v.FieldByName(name))
	}
	for _, name := range behind(v) {
		e.into(v.FieldByName(name))
	}
}

func (e *eater) elements(v reflect.Value, n int) {
	for range n {
		x := reflect.New(v.Type().Elem()).Elem()
		e.into(x)
		if e.fault != right {
			return
		}
		v.Set(reflect.Append(v, x))
	}
}

func (e *eater) state(v reflect.Value, s *api.State) {
	e.into(v.FieldByName("Head"))
	if e.fault != right {
		return
	}
	n := e.count()
	if n > 0 {
		e.into(v.FieldByName("On"))
	}
	e.elements(v.FieldByName("Cases"), n)
	e.into(v.FieldByName("Else"))
}

func modelDecode(b []byte) (api.Plan, api.Fault) {
	end := len(b) - 4
	switch {
	case len(b) < 7:
		return api.Plan{}, fault(api.ErrShort, len(b))
	case len(b) > 8000:
		return api.Plan{}, fault(api.ErrLong, 8000)
	case !bytes.HasPrefix(b, []byte{83, 89, 1}):
		return api.Plan{}, fault(api.ErrForm, 0)
	case !bytes.Equal(framedSum(b[:end]), b[end:]):
		return api.Plan{}, fault(api.ErrSum, end)
	}
	var p api.Plan
	e := &eater{rest: b[3:end], at: 3}
	e.into(reflect.ValueOf(&p).Elem())
	if len(e.rest) > 0 {
		e.wrong(api.ErrForm, e.at)
	}
	if plan.Check(p) != right {
		e.wrong(api.ErrKind, end)
	}
	if e.fault != right {
		return api.Plan{}, e.fault
	}
	return p, right
}

// alike asks whether two plans are the same, lists without elements being so either way.
func alike(p, q api.Plan) bool {
	return reflect.DeepEqual(plan.Own(p), plan.Own(q))
}

// bare tells a plan like p without what its things do not have.
func bare(p api.Plan) api.Plan {
	p = plan.Own(p)
	for i, s := range p.States {
		if len(s.Cases) == 0 {
			p.States[i].On = api.Ref{}
		}
	}
	for _, a := range p.Acts {
		for i := range a.Ops {
			strip(reflect.ValueOf(&a.Ops[i]).Elem())
		}
	}
	for i := range p.Nodes {
		strip(reflect.ValueOf(&p.Nodes[i]).Elem())
	}
	return p
}

// strip takes from a thing with a kind what it does not have, and from the steps of its expression.
func strip(v reflect.Value) {
	has := slices.Concat(fronts[v.Type().Name()], behind(v))
	for i := range v.NumField() {
		if !slices.Contains(has, v.Type().Field(i).Name) {
			v.Field(i).SetZero()
		}
	}
	if e := v.FieldByName("E"); e.IsValid() {
		for i := range e.Len() {
			strip(e.Index(i))
		}
	}
}

// maker makes right plans, as they come. What its things do not have is filled with whatever comes.
type maker struct {
	*rand.Rand
	p api.Plan
}

// many tells how many there are to be: often the least or the most.
func (m maker) many(least, most int) int {
	return []int{least, most, least + m.Intn(most-least+1)}[m.Intn(3)]
}

func somePlan(r *rand.Rand) api.Plan {
	m := maker{Rand: r}
	for range m.many(0, api.MaxHeads) {
		m.p.Heads = append(m.p.Heads, api.Header{W: times(m.many(1, api.MaxFields), 8*(1+m.Intn(4)))})
	}
	m.p.Meta = m.widths(api.MaxMeta)
	last := m.many(1, api.MaxStates) - 1
	for n := range last + 1 {
		m.p.States = append(m.p.States, m.state(n, last))
	}
	for range m.many(1, api.MaxActs) {
		m.p.Acts = append(m.p.Acts, m.action())
	}
	for range m.many(0, api.MaxTabs) {
		m.p.Tabs = append(m.p.Tabs, m.table())
	}
	end := m.many(0, api.MaxNodes)
	for n := range end {
		m.p.Nodes = append(m.p.Nodes, m.node(n, end))
	}
	m.p.Out = m.Perm(len(m.p.Heads))[:m.Intn(len(m.p.Heads)+1)]
	return m.p
}

func (m maker) widths(most int) []int {
	var l []int
	for range m.many(0, most) {
		l = append(l, m.many(1, api.MaxWidth))
	}
	return l
}

// fields tells the fields that there are, with parameters of the widths args.
func (m maker) fields(args []int) []api.Ref {
	l := []api.Ref{ref(api.InPort, 0)}
	for h := api.InArg; h < len(m.p.Heads); h++ {
		for f := 0; plan.Width(m.p, ref(h, f), args) > 0; f++ {
			l = append(l, ref(h, f))
		}
	}
	return l
}

func (m maker) field(args []int) api.Ref {
	l := m.fields(args)
	return l[m.Intn(len(l))]
}

// narrow tells a number of at most so many bits.
func (m maker) narrow(bits int) uint64 {
	return m.Uint64() >> m.Intn(64) & (1<<bits - 1)
}

func (m maker) state(n, last int) api.State {
	to := func() int {
		if n == last || m.Intn(3) == 0 {
			return api.Accept + m.Intn(2)
		}
		return n + 1 + m.Intn(last-n)
	}
	s := api.State{Head: m.Intn(len(m.p.Heads)+1) - 1, On: m.field(nil), Else: to()}
	for range m.many(0, api.MaxCases) {
		mask := m.narrow(plan.Width(m.p, s.On, nil))
		s.Cases = append(s.Cases, api.Case{Value: mask & m.Uint64(), Mask: mask, To: to()})
	}
	return s
}

func (m maker) tree(args []int) []api.Push {
	var e []api.Push
	left := 0
	for left != 1 || len(e) < 6 && m.Intn(3) > 0 {
		s := api.Push{Op: api.PNum + m.Intn(2), R: m.field(args), N: m.Uint64() >> m.Intn(64)}
		switch {
		case left == 1 && m.Intn(3) == 0:
			s.Op = api.PNot
		case left > 1:
			s.Op = api.PAdd + m.Intn(api.PEq-api.PAdd+1)
		}
		left += 1 - plan.Takes(s.Op)
		e = append(e, s)
	}
	return e
}

func (m maker) action() api.Action {
	a := api.Action{W: m.widths(api.MaxParams)}
	for range m.many(0, api.MaxOps) {
		o := api.Op{Kind: 1 + m.Intn(6), R: m.field(nil), Head: m.Intn(6), E: m.tree(a.W)}
		if (o.Kind == api.OSet || o.Kind == api.OSum) && o.R.H == api.InPort || o.Kind != api.OSet && o.Head >= len(m.p.Heads) {
			o.Kind = api.OPort
		}
		a.Ops = append(a.Ops, o)
	}
	return a
}

func (m maker) table() api.Table {
	t := api.Table{Kind: 1 + m.Intn(3), Cap: m.many(0, api.MaxCap)}
	keys := m.many(1, api.MaxKeys)
	if t.Kind == api.KPrefix {
		keys = 1
	}
	for range keys {
		t.Keys = append(t.Keys, m.field(nil))
	}
	for range m.many(1, api.MaxSays) {
		t.Acts = append(t.Acts, m.Intn(len(m.p.Acts)))
	}
	t.Def = t.Acts[m.Intn(len(t.Acts))]
	for _, w := range m.p.Acts[t.Def].W {
		t.Args = append(t.Args, m.narrow(w))
	}
	return t
}

func (m maker) node(n, end int) api.Node {
	to := func() int { return n + 1 + m.Intn(end-n) }
	x := api.Node{Kind: 1 + m.Intn(4), N: m.Intn(8), E: m.tree(nil), Yes: to(), No: to()}
	ok := map[int]bool{
		api.NTable: x.N < len(m.p.Tabs),
		api.NDo:    x.N < len(m.p.Acts) && len(m.p.Acts[min(x.N, len(m.p.Acts)-1)].W) == 0,
		api.NThere: x.N < len(m.p.Heads),
	}
	if !ok[x.Kind] {
		x.Kind = api.NIf
	}
	return x
}

func TestThereAndBack(t *testing.T) {
	r := rand.New(rand.NewSource(9))
	for range 3000 {
		p := somePlan(r)
		if f := plan.Check(p); f != right {
			t.Fatalf("no plan: %v: %+v", f, p)
		}
		before := plan.Own(p)
		b, f := Encode(p)
		if want := modelEncode(p); f != right || !bytes.Equal(b, want) {
			t.Fatalf("%v, %v, want %v: %+v", b, f, want, p)
		}
		if !alike(p, before) {
			t.Fatalf("the plan was changed: %+v, want %+v", p, before)
		}
		kept := bytes.Clone(b)
		q, f := Decode(b)
		if f != right || !reflect.DeepEqual(plan.Own(q), bare(p)) {
			t.Fatalf("%+v, %v, want %+v", q, f, bare(p))
		}
		if !bytes.Equal(b, kept) {
			t.Fatalf("the bytes were changed: %v, want %v", b, kept)
		}
		if again, f := Encode(q); f != right || !bytes.Equal(again, b) {
			t.Fatalf("%v, %v, want %v", again, f, b)
		}
	}
}

// spoil changes something in what is between, by a byte or a few.
func spoil(r *rand.Rand, b []byte) []byte {
	at := r.Intn(len(b) + 1)
	odd := []byte{0, 1, 2, 3, 4, 10, 14, 28, 126, 127, 128, 129, 255, byte(r.Intn(256))}
	x := odd[r.Intn(len(odd))]
	switch r.Intn(6) {
	case 0:
		return slices.Insert(b, at, x)
	case 1:
		return slices.Insert(b, at, times(r.Intn(13), x)...)
	case 2:
		return b[:at]
	case 3:
		to := min(len(b), at+1+r.Intn(3))
		return slices.Delete(b, at, to)
	}
	if at < len(b) {
		b[at] = x
	}
	return b
}

// spoiled tells what is between with up to four things spoiled, and the right sum; at times a thing is spoiled behind that.
func spoiled(r *rand.Rand, between []byte) []byte {
	between = bytes.Clone(between)
	for range r.Intn(5) {
		between = spoil(r, between)
	}
	b := framed(between...)
	if r.Intn(20) == 0 {
		b = spoil(r, b)
	}
	return b
}

func TestDecodeAgainstModel(t *testing.T) {
	r := rand.New(rand.NewSource(26))
	seen := map[int]int{}
	var between []byte
	for i := range 30000 {
		if i%20 == 0 { // it takes long
			between = spelled(reflect.ValueOf(somePlan(r)))
		}
		b := spoiled(r, between)
		got, f := Decode(b)
		want, wrong := modelDecode(b)
		if f != wrong || !alike(got, want) {
			t.Fatalf("%+v, %v, want %+v, %v: %v", got, f, want, wrong, b)
		}
		if f == right {
			if again, f := Encode(got); f != right || !bytes.Equal(again, b) {
				t.Fatalf("%v, %v, want %v", again, f, b)
			}
		} else if !reflect.DeepEqual(got, api.Plan{}) {
			t.Fatalf("%+v beside %v", got, f)
		}
		if again, g := Decode(b); f != g || !alike(got, again) {
			t.Fatalf("%+v, %v, then %+v, %v", got, f, again, g)
		}
		seen[f.Code]++
	}
	for _, code := range []int{0, api.ErrShort, api.ErrForm, api.ErrSum, api.ErrRange, api.ErrMany, api.ErrKind} {
		if seen[code] < 100 {
			t.Errorf("the code %d came about %d times: too few", code, seen[code])
		}
	}
}

// Bytes that nobody wrote are told like any others.
func TestDecodeOfAnything(t *testing.T) {
	r := rand.New(rand.NewSource(4))
	for range 20000 {
		b := make([]byte, r.Intn(40))
		r.Read(b)
		if r.Intn(2) == 0 {
			b = framed(b...)
		}
		got, f := Decode(b)
		if want, wrong := modelDecode(b); f != wrong || !alike(got, want) {
			t.Fatalf("%+v, %v, want %+v, %v: %v", got, f, want, wrong, b)
		}
	}
	for _, x := range []byte{0, 2, 4, 126, 127, 128, 255} {
		for _, n := range []int{1, 2, 100, 7992, 7993} {
			b := framed(bytes.Repeat([]byte{x}, n)...)
			got, f := Decode(b)
			if want, wrong := modelDecode(b); f != wrong || !alike(got, want) {
				t.Errorf("%d times %d: %v, want %v", n, x, f, wrong)
			}
		}
	}
}

// lists tells all lists of a plan, wherever they stand, the inner ones first.
func lists(v reflect.Value) []reflect.Value {
	var l []reflect.Value
	switch v.Kind() {
	case reflect.Struct:
		for i := range v.NumField() {
			l = append(l, lists(v.Field(i))...)
		}
	case reflect.Slice:
		for i := range v.Len() {
			l = append(l, lists(v.Index(i))...)
		}
		l = append(l, v)
	}
	return l
}

func TestDecodeTellsNewMemory(t *testing.T) {
	b := framed(fullBytes()...)
	p, _ := Decode(b)
	q, _ := Decode(b)
	clear(b)
	if !alike(p, full()) {
		t.Fatalf("the plan hangs on the bytes: %+v", p)
	}
	type span struct{ from, to uintptr }
	var spans []span
	for _, v := range append(lists(reflect.ValueOf(p)), lists(reflect.ValueOf(q))...) {
		if v.Cap() == 0 {
			continue
		}
		s := span{v.Pointer(), v.Pointer() + uintptr(v.Cap())*v.Type().Elem().Size()}
		for _, other := range spans {
			if s.from < other.to && other.from < s.to {
				t.Fatalf("two lists share memory: %v", v)
			}
		}
		spans = append(spans, s)
	}
}

func TestEncodeTellsNewMemory(t *testing.T) {
	p := full()
	b, _ := Encode(p)
	clear(b[:cap(b)])
	wantBytes(t, "once more", p, framed(fullBytes()...))
	wantBytes(t, "the least", least(), modelEncode(least()))
}

func TestBehindTheLength(t *testing.T) {
	// Bytes: those behind are neither read nor written, whatever they are.
	good := framed(fullBytes()...)
	room := append(bytes.Clone(good), times(300, byte(77))...)
	wantPlan(t, "with room behind", room[:len(good)], full())
	if crc32.ChecksumIEEE(good) != Sum(room[:len(good)]) {
		t.Error("Sum reads behind the length")
	}
	short := framed(2, 2)
	wantFault(t, "the rest lies behind", append(short, 16, 0, 2, 1, 0, 208, 15)[:len(short)], fault(api.ErrMany, 4))
	if !bytes.Equal(room, append(bytes.Clone(good), times(300, byte(77))...)) {
		t.Error("something was written behind the bytes")
	}

	// The lists of a plan.
	p := full()
	var rooms []reflect.Value
	for _, v := range lists(reflect.ValueOf(&p).Elem()) {
		n := v.Len()
		l := reflect.MakeSlice(v.Type(), n+3, n+3)
		reflect.Copy(l, v)
		v.Set(l.Slice(0, n))
		rooms = append(rooms, l.Slice(n, n+3))
	}
	wantBytes(t, "with room behind", p, good)
	for _, v := range rooms {
		for i := range v.Len() {
			if !v.Index(i).IsZero() {
				t.Errorf("something was written behind a list: %v", v)
			}
		}
	}
}
