package guard

import (
	"fmt"
	"math"
	"math/big"
	"math/rand"
	"reflect"
	"strings"
	"testing"

	"shuntyard/api"
	"shuntyard/store"
	"shuntyard/vm"
	"shuntyard/word"
)

// The model writes down what is known as facts, one by one: a register with a room of 3 has those of 0, 1 and 2, too, so that what all ways know is what stands in all lists. It asks backward, from an instruction, for those that lead to it. What an instruction uses, and where it leads, is read out of a text.

const modelWords = `INum next; IMove S next; IBin R S next; INot R next; IOnes R S next; ILoad S next; IGet slot next; ISet R next; IRoom R next over; ILess R S next over; IEqual R S next over; IJump over; ICall keys next; IPut R next; ITail R next; IExit R; IDrop; IPort next`

// split tells the name of an instruction, and the words behind it.
func split(op int) (string, []string) {
	l := strings.Fields(strings.Split(modelWords, "; ")[op-1])
	return l[0], l[1:]
}

// has asks whether a word stands behind the name of an instruction.
func has(op int, what string) bool {
	_, l := split(op)
	for _, w := range l {
		if w == what {
			return true
		}
	}
	return false
}

// fact is one of "set", "just" (number) and "room" (number) of a register, or "slot".
type fact struct {
	what   string
	which  int
	number uint64
}

type facts map[fact]bool

// without tells all but those of a register.
func (f facts) without(r int) facts {
	g := facts{}
	for x := range f {
		if x.which != r || x.what == "slot" {
			g[x] = true
		}
	}
	return g
}

// of tells the numbers of those of one kind, of a register.
func (f facts) of(what string, r int) []uint64 {
	var l []uint64
	for x := range f {
		if x.what == what && x.which == r {
			l = append(l, x.number)
		}
	}
	return l
}

// both tells the facts that stand in all lists; none, if there is no list.
func both(l []facts) facts {
	if len(l) == 0 {
		return nil
	}
	g := facts{}
	for x := range l[0] {
		in := 0
		for _, f := range l {
			if f[x] {
				in++
			}
		}
		if in == len(l) {
			g[x] = true
		}
	}
	return g
}

// model looks at a program; what was asked for once is kept.
type model struct {
	p    api.Program
	kept map[int]facts
}

// ahead tells what is known ahead of an instruction; nil, if no way comes there.
func (m *model) ahead(at int) facts {
	if at == 0 {
		return facts{}
	}
	if f, ok := m.kept[at]; ok {
		return f
	}
	var l []facts
	for from := range at {
		ins := m.p.Code[from]
		next := from+1 == at && has(ins.Op, "next")
		over := from+1+ins.To == at && has(ins.Op, "over")
		if !next && !over {
			continue
		}
		f := m.ahead(from)
		if f == nil {
			continue
		}
		if next {
			l = append(l, m.behind(ins, f))
		}
		if over {
			l = append(l, f)
		}
	}
	m.kept[at] = both(l)
	return m.kept[at]
}

// behind tells what the next one knows.
func (m *model) behind(ins api.Ins, f facts) facts {
	name, _ := split(ins.Op)
	g := f.without(-1)
	switch name {
	case "INum", "IMove", "IBin", "INot", "IOnes", "IPort", "ILoad", "IGet", "ICall":
		g = f.without(ins.R)
		g[fact{"set", ins.R, 0}] = true
	}
	switch name {
	case "INum":
		g[fact{"just", ins.R, ins.N}] = true
		if ins.N == 0 {
			g[fact{"room", ins.R, 0}] = true
		}
	case "IMove":
		for _, what := range []string{"just", "room"} {
			for _, n := range f.of(what, ins.S) {
				g[fact{what, ins.R, n}] = true
			}
		}
	case "IBin":
		if ins.K != api.PAdd {
			break
		}
		for _, s := range f.of("just", ins.S) {
			for _, r := range f.of("just", ins.R) {
				g[fact{"just", ins.R, wrappedSum(r, s)}] = true
			}
			for _, n := range f.of("room", ins.R) {
				if n >= s {
					g[fact{"room", ins.R, n - s}] = true
				}
			}
		}
	case "ISet":
		g[fact{"slot", int(ins.N), 0}] = true
	case "ICall":
		for i := range m.p.Tabs[ins.N].Args {
			g[fact{"slot", ins.K + i, 0}] = true
		}
	case "IRoom":
		for n := range ins.N + 1 {
			g[fact{"room", ins.R, n}] = true
		}
	}
	return g
}

// wrappedSum tells the low 64 bits of a sum.
func wrappedSum(a, b uint64) uint64 {
	s := new(big.Int).Add(new(big.Int).SetUint64(a), new(big.Int).SetUint64(b))
	return s.Mod(s, new(big.Int).Lsh(big.NewInt(1), 64)).Uint64()
}

// wrong tells what may go wrong at an instruction: a code, and in which words.
func (m *model) wrong(ins api.Ins, f facts) (int, string) {
	name, uses := split(ins.Op)
	for _, u := range uses {
		if u == "R" && !f[fact{"set", ins.R, 0}] || u == "S" && !f[fact{"set", ins.S, 0}] {
			return api.ErrUnset, name + ": " + u
		}
	}
	switch {
	case name == "ILoad" && !f[fact{"room", ins.S, ins.N + uint64(ins.K)}]:
		return api.ErrRoom, "ILoad: room"
	case name == "ITail" && !f[fact{"room", ins.R, 0}]:
		return api.ErrRoom, "ITail: room"
	case name == "IGet" && !f[fact{"slot", int(ins.N), 0}]:
		return api.ErrUnset, "IGet: slot"
	case name == "ICall":
		for i := range m.p.Tabs[ins.N].Keys {
			if !f[fact{"slot", ins.S + i, 0}] {
				return api.ErrUnset, "ICall: slot"
			}
		}
	}
	return 0, ""
}

// modelCheck tells a program's fault, and in which words.
func modelCheck(p api.Program) (api.Fault, string) {
	if f := word.Check(p); f != right {
		return f, "word"
	}
	m := &model{p, map[int]facts{}}
	for at, ins := range p.Code {
		f := m.ahead(at)
		if f == nil {
			continue
		}
		if code, words := m.wrong(ins, f); code != 0 {
			return fault(code, at), words
		}
	}
	return right, "let by"
}

// maker makes programs by chance, with tables for them. Most instructions are such that nothing goes wrong there.
type maker struct {
	*rand.Rand
	model
	tabs   []*store.Store
	daring int // of so many instructions that may go wrong, one is taken
}

func (m *maker) number() uint64 {
	switch m.Intn(20) {
	case 0:
		return m.Uint64() >> m.Intn(64)
	case 1:
		return math.MaxUint64 - uint64(m.Intn(5))
	case 2:
		return uint64(m.Intn(620))
	case 3, 4, 5, 6:
		return 0
	}
	return uint64(m.Intn(8))
}

// long tells how much room is asked for, or how far behind its place a load is.
func (m *maker) long(most int) uint64 {
	if m.Intn(40) == 0 {
		return uint64(600 - m.Intn(10))
	}
	return uint64(m.Intn(most))
}

// table makes one, with entries, and the shape of what it says.
func (m *maker) table(t *testing.T) {
	acts := make([]api.Action, 8)
	for i := range acts {
		for range m.Intn(4) {
			acts[i].W = append(acts[i].W, 1+m.Intn(48))
		}
	}
	tab := api.Table{Kind: api.KExact, Cap: 16}
	shape := api.Shape{Keys: 1 + m.Intn(3)}
	var widths []int
	for range shape.Keys {
		widths = append(widths, 1+m.Intn(3))
	}
	for range 1 + m.Intn(4) {
		act := m.Intn(8)
		tab.Acts = append(tab.Acts, act)
		shape.Acts, shape.Args = max(shape.Acts, act+1), max(shape.Args, len(acts[act].W))
	}
	tab.Def = tab.Acts[0]
	tab.Args = make([]uint64, len(acts[tab.Def].W))
	s, f := store.New(tab, widths, acts)
	if f != right {
		t.Fatalf("store.New: %v", f)
	}
	for range m.Intn(20) {
		e := api.Entry{Act: tab.Acts[m.Intn(len(tab.Acts))]}
		for _, w := range widths {
			e.Keys = append(e.Keys, uint64(m.Intn(1<<w)))
		}
		for _, w := range acts[e.Act].W {
			e.Args = append(e.Args, m.Uint64()>>(64-w))
		}
		s.Add(e)
	}
	m.p.Tabs, m.tabs = append(m.p.Tabs, shape), append(m.tabs, s)
}

// instruction tells one, as many as behind being behind it.
func (m *maker) instruction(behind int) api.Ins {
	r, s := m.Intn(6), m.Intn(6)
	if m.Intn(20) == 0 {
		r, s = m.Intn(10), m.Intn(10)
	}
	to := m.Intn(min(behind, 1+m.Intn(7)))
	if m.Intn(3) == 0 {
		to = behind - 1
	}
	slot := uint64(m.Intn(m.p.Slots))
	switch op := 1 + m.Intn(24); op {
	case api.INum, 19:
		return num(r, m.number())
	case api.IMove:
		return move(r, s)
	case api.IBin:
		return bin(r, s, api.PAdd+m.Intn(10))
	case 20, 21:
		return add(r, s)
	case api.INot:
		return not(r)
	case api.IOnes:
		return ones(r, s)
	case api.ILoad, 22:
		return load(r, s, 1+m.Intn(8), m.long(6))
	case api.IGet:
		return get(r, slot)
	case api.ISet:
		return set(r, slot)
	case api.IRoom, 23, 24:
		return room(r, m.long(25), to)
	case api.ILess:
		return less(r, s, to)
	case api.IEqual:
		return equal(r, s, to)
	case api.IJump:
		return jump(to % 4)
	case api.ICall:
		if len(m.tabs) == 0 {
			return port(r)
		}
		n := m.Intn(len(m.tabs))
		shape := m.p.Tabs[n]
		return call(r, m.Intn(m.p.Slots-shape.Keys+1), m.Intn(m.p.Slots-shape.Args+1), uint64(n))
	case api.IPut:
		return put(r, 1+m.Intn(8))
	case api.ITail:
		return tail(r)
	case api.IExit:
		if m.Intn(4) == 0 {
			return exit(r)
		}
	case api.IDrop:
		if m.Intn(8) == 0 {
			return drop
		}
	}
	return port(r)
}

// oneWith tells a register of which the model has such a fact.
func (m *maker) oneWith(f facts, what string) (int, bool) {
	var l []int
	for r := range 10 {
		if len(f.of(what, r)) > 0 {
			l = append(l, r)
		}
	}
	if len(l) == 0 {
		return 0, false
	}
	return l[m.Intn(len(l))], true
}

// aimed tells an instruction at the edge of what is known: a sum with a number that is known, or a load of all the room that there is, or of a byte more; or else any one.
func (m *maker) aimed(f facts, behind int) api.Ins {
	r, hasRoom := m.oneWith(f, "room")
	s, hasJust := m.oneWith(f, "just")
	if hasJust && m.Intn(2) == 0 {
		if !hasRoom || m.Intn(3) == 0 {
			r, _ = m.oneWith(f, "set")
		}
		return add(r, s)
	}
	end := len(f.of("room", r)) - 1 + m.Intn(2) // a room of n has n and one facts
	k := 1 + m.Intn(8)
	if !hasRoom || end < k || end-k > 600 {
		return m.instruction(behind)
	}
	return load(m.Intn(10), r, k, uint64(end-k))
}

// next adds an instruction; of those that may go wrong there, most are left. Those without room are few, and wanted.
func (m *maker) next(draw func() api.Ins) {
	f := m.ahead(len(m.p.Code))
	for {
		ins := draw()
		code, _ := m.wrong(ins, f)
		daring := m.daring
		if code == api.ErrRoom {
			daring = 1 + daring/4
		}
		if f == nil || code == 0 || m.Intn(daring) == 0 {
			m.p.Code = append(m.p.Code, ins)
			return
		}
	}
}

// program makes one.
func (m *maker) program(t *testing.T) {
	m.kept = map[int]facts{}
	m.p.Slots = 3 + m.Intn(5)
	if m.Intn(10) == 0 {
		m.p.Slots = 3 + m.Intn(94)
	}
	for range m.Intn(6) {
		m.table(t)
	}
	for r := range 6 {
		if m.Intn(3) > 0 {
			m.p.Code = append(m.p.Code, num(r, m.number()))
		}
	}
	many := len(m.p.Code) + 2 + m.Intn(40)
	for len(m.p.Code) < many {
		behind := many - len(m.p.Code)
		m.next(func() api.Ins {
			if m.Intn(4) == 0 {
				return m.aimed(m.ahead(len(m.p.Code)), behind)
			}
			return m.instruction(behind)
		})
	}
	m.next(func() api.Ins {
		if m.Intn(2) == 0 {
			return drop
		}
		return exit(m.Intn(10))
	})
}

func (m *maker) packet() []byte {
	b := make([]byte, m.Intn(30))
	switch m.Intn(6) {
	case 0:
		b = make([]byte, m.Intn(601))
	case 1:
		b = make([]byte, 600)
	}
	m.Read(b)
	for i := range b {
		b[i] >>= m.Intn(8)
	}
	return b
}

func TestLikeTheModel(t *testing.T) {
	r := rand.New(rand.NewSource(1))
	told := map[string]int{}
	for range 7000 {
		m := &maker{Rand: r, daring: 10 + r.Intn(150)}
		m.program(t)
		want, words := modelCheck(m.p)
		if words == "word" {
			t.Fatalf("%v: %+v", want, m.p)
		}
		told[words]++
		if f := Check(m.p); f != want {
			t.Fatalf("%v, want %v (%s): %+v", f, want, words, m.p)
		}
	}
	for op := api.INum; op <= api.IPort; op++ {
		name, uses := split(op)
		for _, u := range uses {
			if (u == "R" || u == "S") && told[name+": "+u] < 10 {
				t.Errorf("%s: %s came %d times", name, u, told[name+": "+u])
			}
		}
	}
	for _, words := range []string{"let by", "ILoad: room", "ITail: room", "IGet: slot", "ICall: slot"} {
		if told[words] < 50 {
			t.Errorf("%s: %d times", words, told[words])
		}
	}
}

// What is let by never goes wrong: no run has a fault, nor does it more instructions than there are. Of what is not let by, many a run does have one, and never ahead of the one that is told.
func TestRuns(t *testing.T) {
	r := rand.New(rand.NewSource(2))
	told := map[string]int{}
	for range 6000 {
		m := &maker{Rand: r, daring: 10 + r.Intn(150)}
		m.program(t)
		f := Check(m.p)
		for range 10 {
			_, done, wrong := vm.Run(m.p, m.tabs, m.packet(), r.Intn(0x10000))
			switch {
			case f == right && (wrong != right || done > len(m.p.Code)):
				t.Fatalf("%v by %d, though it was let by: %+v", wrong, done, m.p)
			case wrong != right && wrong.At < f.At:
				t.Fatalf("%v, though %v was told: %+v", wrong, f, m.p)
			}
			told[fmt.Sprintf("told %d, came %d", f.Code, wrong.Code)]++
			if f == right && done > 20 {
				told["a long one"]++
			}
		}
	}
	for _, what := range []string{"told 0, came 0", "told 15, came 0", "told 15, came 15", "told 16, came 0", "told 16, came 16", "a long one"} {
		if told[what] < 500 {
			t.Errorf("%s: %d times: %v", what, told[what], told)
		}
	}
}

// spoil changes one number of a program, or its end.
func (m *maker) spoil() {
	edges := []int{math.MinInt, -256, -2, -1, 0, 1, 2, 3, 4, 8, 9, 10, 12, 13, 16, 17, 18, 19, 95, 96, 97, 256, 600, 601, 65536, 1 << 32, math.MaxInt}
	v := reflect.ValueOf(&m.p.Code[m.Intn(len(m.p.Code))]).Elem()
	if len(m.p.Tabs) > 0 && m.Intn(8) == 0 {
		v = reflect.ValueOf(&m.p.Tabs[m.Intn(len(m.p.Tabs))]).Elem()
	}
	f := v.Field(m.Intn(v.NumField()))
	n := edges[m.Intn(len(edges))]
	switch {
	case m.Intn(20) == 0:
		m.p.Slots = n
	case m.Intn(20) == 0:
		m.p.Code = m.p.Code[:m.Intn(len(m.p.Code))]
	case f.CanInt():
		f.SetInt(int64(n))
	default:
		f.SetUint(uint64(n))
	}
}

// Whatever it is given, it ends, and tells the first thing that is wrong.
func TestOfAnything(t *testing.T) {
	r := rand.New(rand.NewSource(3))
	told := map[int]int{}
	for range 7000 {
		m := &maker{Rand: r, daring: 10 + r.Intn(150)}
		m.program(t)
		for range 1 + r.Intn(2) {
			if len(m.p.Code) > 0 {
				m.spoil()
			}
		}
		want, words := modelCheck(m.p)
		if f := Check(m.p); f != want {
			t.Fatalf("%v, want %v (%s): %+v", f, want, words, m.p)
		}
		told[want.Code]++
	}
	for _, code := range []int{0, api.ErrRange, api.ErrMany, api.ErrForm, api.ErrUnset, api.ErrRoom, api.ErrJump, api.ErrEnd} {
		if told[code] < 20 {
			t.Errorf("the code %d came %d times: %v", code, told[code], told)
		}
	}
}
