package vm

import (
	"encoding/hex"
	"fmt"
	"math"
	"math/big"
	"math/rand"
	"reflect"
	"strings"
	"testing"

	"shuntyard/api"
	"shuntyard/store"
	"shuntyard/word"
)

// The model keeps what registers and slots have by their names, as great numbers; what an instruction uses is read out of a text; what goes out is digits; a table is asked by going through its entries, bit by bit.

const usesWords = `INum; IMove S; IBin R S; INot R; IOnes R S; ILoad S; IGet slot; ISet R; IRoom R; ILess R S; IEqual R S; IJump; ICall keys; IPut R; ITail R; IExit R; IDrop; IPort`

// modelWords tells the name of an instruction, and what it uses.
func modelWords(op int) (string, []string) {
	l := strings.Fields(strings.Split(usesWords, "; ")[op-1])
	return l[0], l[1:]
}

// modelTable is a table, with what the model must know to ask it.
type modelTable struct {
	*store.Store
	kind   int
	widths []int
}

func great(n uint64) *big.Int { return new(big.Int).SetUint64(n) }

func plus(a, b *big.Int) *big.Int { return new(big.Int).Add(a, b) }

// wrapped tells what is left of a number in so many bits.
func wrapped(n *big.Int, bits uint) *big.Int {
	return new(big.Int).Mod(n, new(big.Int).Lsh(big.NewInt(1), bits))
}

// modelFits asks whether an entry's keys agree with k in all bits that count.
func (m modelTable) modelFits(e api.Entry, k []*big.Int) bool {
	for i, w := range m.widths {
		if k[i].BitLen() > w {
			return false
		}
		for bit := range w {
			counts := true
			switch m.kind {
			case api.KPrefix:
				counts = bit >= w-e.Len
			case api.KTernary:
				counts = great(e.Masks[i]).Bit(bit) == 1
			}
			if counts && k[i].Bit(bit) != great(e.Keys[i]).Bit(bit) {
				return false
			}
		}
	}
	return true
}

// modelSays tells what the table says; and whether an entry says it.
func (m modelTable) modelSays(k []*big.Int) (api.Hit, bool) {
	var best []api.Entry
	for _, e := range m.All() {
		if m.modelFits(e, k) && (len(best) == 0 || e.Len > best[0].Len || e.Prio < best[0].Prio) {
			best = []api.Entry{e}
		}
	}
	if len(best) == 0 {
		return m.Says(), false
	}
	return api.Hit{Act: best[0].Act, Args: best[0].Args}, true
}

// world is a run of the model.
type world struct {
	p      api.Program
	tabs   []modelTable
	packet []byte
	port   int
	has    map[string]*big.Int
	out    string
	told   map[string]int // how often what came about
}

func register(n int) string { return fmt.Sprint("register ", n) }

func slot(n int) string { return fmt.Sprint("slot ", n) }

// names tells by which names an instruction finds what it uses.
func (w *world) names(ins api.Ins) []string {
	var l []string
	_, uses := modelWords(ins.Op)
	for _, what := range uses {
		switch what {
		case "R":
			l = append(l, register(ins.R))
		case "S":
			l = append(l, register(ins.S))
		case "slot":
			l = append(l, slot(int(ins.N)))
		case "keys":
			for i := range w.p.Tabs[ins.N].Keys {
				l = append(l, slot(ins.S+i))
			}
		}
	}
	return l
}

// beyond asks whether what ends ahead of that place is not all in the packet.
func (w *world) beyond(end *big.Int) bool {
	return end.Cmp(great(uint64(len(w.packet)))) > 0
}

// run goes from instruction to instruction.
func (w *world) run() (api.Result, int, api.Fault) {
	done := 0
	for at := 0; ; {
		ins := w.p.Code[at]
		name, _ := modelWords(ins.Op)
		var l []*big.Int
		for _, n := range w.names(ins) {
			if w.has[n] == nil {
				w.told[name+" unset"]++
				return api.Result{}, 0, fault(api.ErrUnset, at)
			}
			l = append(l, w.has[n])
		}
		done++
		w.told[name]++
		switch name {
		case "IExit":
			b, _ := hex.DecodeString(w.out)
			return api.Result{Port: int(wrapped(l[0], 16).Int64()), Bytes: b}, done, right
		case "IDrop":
			return api.Result{Port: -1}, done, right
		}
		if code := w.do(name, ins, l); code != 0 {
			w.told[fmt.Sprint(name, " fault ", code)]++
			return api.Result{}, 0, fault(code, at)
		}
		at++
		if w.leads(name, ins, l) {
			w.told[name+" leads"]++
			at += ins.To
		}
	}
}

// leads asks whether an instruction leads over others, l being what it uses.
func (w *world) leads(name string, ins api.Ins, l []*big.Int) bool {
	switch name {
	case "IRoom":
		return w.beyond(plus(l[0], great(ins.N)))
	case "ILess":
		return l[0].Cmp(l[1]) < 0
	case "IEqual":
		return l[0].Cmp(l[1]) == 0
	case "IJump":
		return true
	}
	return false
}

// do does an instruction, l being what it uses.
func (w *world) do(name string, ins api.Ins, l []*big.Int) int {
	r := register(ins.R)
	switch name {
	case "INum":
		w.has[r] = great(ins.N)
	case "IMove", "IGet":
		w.has[r] = l[0]
	case "IBin":
		w.has[r] = modelApply(ins.K, l[0], l[1])
	case "INot":
		w.has[r] = new(big.Int).Sub(great(math.MaxUint64), l[0])
	case "IOnes":
		total := plus(wrapped(l[0], 16), wrapped(l[1], 16))
		if total.Cmp(great(0xFFFF)) > 0 {
			total.Sub(total, great(0xFFFF))
		}
		w.has[r] = total
	case "ILoad":
		from := plus(l[0], great(ins.N))
		if w.beyond(plus(from, great(uint64(ins.K)))) {
			return api.ErrRoom
		}
		w.has[r] = new(big.Int).SetBytes(w.packet[from.Int64():][:ins.K])
	case "ISet":
		w.has[slot(int(ins.N))] = l[0]
	case "ICall":
		return w.call(ins, l)
	case "IPut":
		digits := fmt.Sprintf("%016x", l[0])
		w.out += digits[len(digits)-2*ins.K:]
	case "ITail":
		if w.beyond(l[0]) {
			return api.ErrRoom
		}
		w.out += hex.EncodeToString(w.packet[l[0].Int64():])
	case "IPort":
		w.has[r] = great(uint64(w.port))
	}
	return 0
}

func (w *world) call(ins api.Ins, keys []*big.Int) int {
	hit, fits := w.tabs[ins.N].modelSays(keys)
	w.told[fmt.Sprint("an entry fits: ", fits)]++
	shape := w.p.Tabs[ins.N]
	if hit.Act >= shape.Acts || len(hit.Args) > shape.Args {
		return api.ErrKind
	}
	w.has[register(ins.R)] = great(uint64(hit.Act))
	for i, v := range append(hit.Args, make([]uint64, shape.Args-len(hit.Args))...) {
		w.has[slot(ins.K+i)] = great(v)
	}
	return 0
}

// modelApply tells what a step of an expression makes of two numbers.
func modelApply(op int, a, b *big.Int) *big.Int {
	x := new(big.Int)
	is := func(ok bool) *big.Int {
		if ok {
			return big.NewInt(1)
		}
		return x
	}
	many := uint(64)
	if b.Cmp(great(64)) < 0 {
		many = uint(b.Int64())
	}
	switch op {
	case api.PAdd:
		x.Add(a, b)
	case api.PSub:
		x.Sub(a, b)
	case api.PMul:
		x.Mul(a, b)
	case api.PAnd:
		x.And(a, b)
	case api.POr:
		x.Or(a, b)
	case api.PXor:
		x.Xor(a, b)
	case api.PShl:
		x.Lsh(a, many)
	case api.PShr:
		x.Rsh(a, many)
	case api.PLess:
		return is(a.Cmp(b) < 0)
	case api.PEq:
		return is(a.Cmp(b) == 0)
	}
	return wrapped(x, 64)
}

// maker makes tables and programs by chance, most of which go a long way.
type maker struct {
	*rand.Rand
	p     api.Program
	tabs  []modelTable
	regs  []int // that have something, if no instruction was gone over
	slots []int
}

// oneOf tells mostly one of some numbers, else one that is below most.
func (m *maker) oneOf(l []int, most int) int {
	if len(l) > 0 && m.Intn(60) > 0 {
		return l[m.Intn(len(l))]
	}
	return m.Intn(most)
}

func (m *maker) number() uint64 {
	switch m.Intn(12) {
	case 0:
		return m.Uint64() >> m.Intn(64)
	case 1:
		return uint64(m.Intn(620))
	case 2:
		return math.MaxUint64 - uint64(m.Intn(620))
	}
	return uint64(m.Intn(6))
}

// table makes one, with entries, and what a program knows of it.
func (m *maker) table(t *testing.T) {
	acts := make([]api.Action, 8)
	for i := range acts {
		acts[i].W = times(m.Intn(4), 1+m.Intn(48))
	}
	args := func(act int) []uint64 {
		var l []uint64
		for _, w := range acts[act].W {
			l = append(l, m.Uint64()>>(64-w))
		}
		return l
	}
	tab := api.Table{Kind: 1 + m.Intn(3), Cap: 16}
	shape := api.Shape{Keys: 1}
	for range 1 + m.Intn(4) {
		act := m.Intn(8)
		tab.Acts = append(tab.Acts, act)
		shape.Acts = max(shape.Acts, act+1)
		shape.Args = max(shape.Args, len(acts[act].W))
	}
	if tab.Kind != api.KPrefix {
		shape.Keys = 1 + m.Intn(3)
	}
	tab.Def = tab.Acts[m.Intn(len(tab.Acts))]
	tab.Args = args(tab.Def)
	var widths []int
	for range shape.Keys {
		widths = append(widths, 1+m.Intn(4))
	}
	s := modelTable{tableOf(t, tab, widths, acts), tab.Kind, widths}
	for range m.Intn(30) {
		m.entry(s, tab.Acts[m.Intn(len(tab.Acts))], args)
	}
	if m.Intn(6) == 0 {
		shape.Acts, shape.Args = 1+m.Intn(8), m.Intn(4)
	}
	m.p.Tabs, m.tabs = append(m.p.Tabs, shape), append(m.tabs, s)
}

// entry adds one, if the table takes it.
func (m *maker) entry(s modelTable, act int, args func(int) []uint64) {
	e := api.Entry{Act: act, Args: args(act)}
	for _, w := range s.widths {
		key, mask := uint64(m.Intn(1<<w)), uint64(m.Intn(1<<w))
		switch s.kind {
		case api.KPrefix:
			e.Len = m.Intn(w + 1)
			key = key >> (w - e.Len) << (w - e.Len)
		case api.KTernary:
			key, e.Masks = key&mask, append(e.Masks, mask)
		}
		e.Keys = append(e.Keys, key)
	}
	if s.kind == api.KTernary {
		e.Prio = m.Intn(1001)
	}
	s.Add(e)
}

// instruction adds one, as many as behind being behind it.
func (m *maker) instruction(behind int) {
	ins := api.Ins{Op: 1 + m.Intn(18)}
	switch ins.Op {
	case api.INum:
		ins.R, ins.N = m.Intn(10), m.number()
	case api.IMove:
		ins.R, ins.S = m.Intn(10), m.oneOf(m.regs, 10)
	case api.IBin:
		ins.R, ins.S, ins.K = m.oneOf(m.regs, 10), m.oneOf(m.regs, 10), api.PAdd+m.Intn(10)
	case api.IOnes:
		ins.R, ins.S = m.oneOf(m.regs, 10), m.oneOf(m.regs, 10)
	case api.ILoad:
		ins.R, ins.S, ins.K, ins.N = m.Intn(10), m.oneOf(m.regs, 10), 1+m.Intn(8), min(600, m.number())
	case api.IGet:
		ins.R, ins.N = m.Intn(10), uint64(m.oneOf(m.slots, m.p.Slots))
	case api.ISet:
		ins.R, ins.N = m.oneOf(m.regs, 10), uint64(m.Intn(m.p.Slots))
	case api.IRoom:
		ins.R, ins.N = m.oneOf(m.regs, 10), min(600, m.number())
	case api.ILess, api.IEqual:
		ins.R, ins.S = m.oneOf(m.regs, 10), m.oneOf(m.regs, 10)
	case api.ICall:
		if len(m.tabs) == 0 {
			return
		}
		n := m.Intn(len(m.tabs))
		shape := m.p.Tabs[n]
		ins.R, ins.N = m.Intn(10), uint64(n)
		ins.S, ins.K = m.Intn(m.p.Slots-shape.Keys+1), m.Intn(m.p.Slots-shape.Args+1)
	case api.IPut:
		ins.R, ins.K = m.oneOf(m.regs, 10), 1+m.Intn(8)
	case api.INot, api.ITail:
		ins.R = m.oneOf(m.regs, 10)
	case api.IPort:
		ins.R = m.Intn(10)
	case api.IExit:
		if m.Intn(10) > 0 {
			return
		}
		ins.R = m.oneOf(m.regs, 10)
	case api.IDrop:
		if m.Intn(20) > 0 {
			return
		}
	}
	if ins.Op == api.IRoom || ins.Op == api.ILess || ins.Op == api.IEqual || ins.Op == api.IJump {
		ins.To = m.Intn(min(behind, 1+m.Intn(8)))
	}
	m.next(ins)
}

// next adds an instruction, and keeps what has something from then on.
func (m *maker) next(ins api.Ins) {
	m.p.Code = append(m.p.Code, ins)
	switch ins.Op {
	case api.ISet:
		m.slots = append(m.slots, int(ins.N))
	case api.INum, api.IMove, api.ILoad, api.IGet, api.ICall, api.IPort:
		m.regs = append(m.regs, ins.R)
	}
}

// program makes one.
func (m *maker) program(t *testing.T) {
	m.p.Slots = 3 + m.Intn(6)
	if m.Intn(10) == 0 {
		m.p.Slots = 3 + m.Intn(94)
	}
	for range m.Intn(6) {
		m.table(t)
	}
	for r := range 10 {
		if m.Intn(8) > 0 {
			m.next(num(r, m.number()))
		}
	}
	for n := range m.p.Slots {
		if m.Intn(30) > 0 && len(m.regs) > 0 {
			m.next(num(m.regs[0], uint64(m.Intn(10))))
			m.next(set(m.regs[0], uint64(n)))
		}
	}
	// No more than these are added, so that whatever leads on has one to lead to.
	many := len(m.p.Code) + m.Intn(60)
	for len(m.p.Code) < many {
		m.instruction(many - len(m.p.Code))
	}
	end := drop
	if m.Intn(4) > 0 {
		end = exit(m.oneOf(m.regs, 10))
	}
	m.next(end)
}

func (m *maker) packet() []byte {
	b := make([]byte, m.Intn(20))
	if m.Intn(4) == 0 {
		b = make([]byte, m.Intn(601))
	}
	m.Read(b)
	return b
}

// wrongAtFirst tells the fault with which nothing is done, by the document's words.
func wrongAtFirst(p api.Program, tabs []*store.Store, b []byte, port int) api.Fault {
	if f := word.Check(p); f != right {
		return f
	}
	if len(tabs) != len(p.Tabs) {
		return fault(api.ErrMany, -1)
	}
	for i := range tabs {
		if tabs[i] == nil || tabs[i].Keys() != p.Tabs[i].Keys {
			return fault(api.ErrMany, -1)
		}
	}
	if len(b) > 600 {
		return fault(api.ErrLong, -1)
	}
	if port < 0 || port > 65535 {
		return fault(api.ErrRange, -1)
	}
	return right
}

// wantLikeModel asks Run for what the model tells, which is the fault.
func wantLikeModel(t *testing.T, m *maker, tabs []*store.Store, b []byte, port int, told map[string]int) api.Fault {
	t.Helper()
	var want api.Result
	many := 0
	wantFault := wrongAtFirst(m.p, tabs, b, port)
	if wantFault == right {
		w := &world{p: m.p, tabs: m.tabs, packet: b, port: port, has: map[string]*big.Int{}, told: told}
		want, many, wantFault = w.run()
	}
	got, done, f := Run(m.p, tabs, b, port)
	if f != wantFault || done != many || !alike(got, want) || done > len(m.p.Code) {
		t.Fatalf("%v by %d, %v, want %v by %d, %v: %+v on %v", got, done, f, want, many, wantFault, m.p, b)
	}
	if f != right && !reflect.DeepEqual(got, api.Result{}) {
		t.Fatalf("%v beside %v", got, f)
	}
	return f
}

// stores tells the tables as Run takes them.
func (m *maker) stores() []*store.Store {
	var l []*store.Store
	for _, s := range m.tabs {
		l = append(l, s.Store)
	}
	return l
}

func TestLikeTheModel(t *testing.T) {
	r := rand.New(rand.NewSource(1))
	told := map[string]int{}
	for range 20000 {
		m := &maker{Rand: r}
		m.program(t)
		for range 2 {
			if f := wantLikeModel(t, m, m.stores(), m.packet(), r.Intn(0x10000), told); f.At < 0 {
				t.Fatalf("%v: %+v", f, m.p)
			}
		}
	}
	for _, what := range strings.Split(usesWords, "; ") {
		name, uses, _ := strings.Cut(what, " ")
		if told[name] < 1000 || uses != "" && told[name+" unset"] < 10 {
			t.Errorf("%s came %d times, unset %d times", name, told[name], told[name+" unset"])
		}
	}
	for _, what := range []string{"IRoom leads", "ILess leads", "IEqual leads", "ILoad fault 16", "ITail fault 16", "ICall fault 5", "an entry fits: true", "an entry fits: false"} {
		if told[what] < 500 {
			t.Errorf("%s: %d times", what, told[what])
		}
	}
	for _, name := range []string{"IRoom", "ILess", "IEqual"} {
		if told[name]-told[name+" leads"] < 500 {
			t.Errorf("%s went on %d times", name, told[name]-told[name+" leads"])
		}
	}
}

// spoil changes one number of a program, or its end.
func (m *maker) spoil() {
	edges := []int{math.MinInt, -256, -2, -1, 0, 1, 2, 3, 4, 8, 9, 10, 12, 13, 16, 17, 18, 19, 95, 96, 97, 256, 600, 601, 65536, 1 << 32, math.MaxInt}
	v := reflect.ValueOf(&m.p.Code[m.Intn(len(m.p.Code))]).Elem()
	if len(m.p.Tabs) > 0 && m.Intn(8) == 0 {
		v = reflect.ValueOf(&m.p.Tabs[m.Intn(len(m.p.Tabs))]).Elem()
	}
	f := v.Field(m.Intn(v.NumField()))
	n := edges[m.Intn(len(edges))]
	switch {
	case m.Intn(20) == 0:
		m.p.Slots = n
	case m.Intn(20) == 0:
		m.p.Code[len(m.p.Code)-1] = port(0)
	case f.CanInt():
		f.SetInt(int64(n))
	default:
		f.SetUint(uint64(n))
	}
}

// Whatever it is given, it ends, and tells the first thing that is wrong.
func TestOfAnything(t *testing.T) {
	r := rand.New(rand.NewSource(2))
	told := map[int]int{}
	for range 20000 {
		m := &maker{Rand: r}
		m.program(t)
		tabs, b, port := m.stores(), m.packet(), r.Intn(0x10000)
		if r.Intn(2) == 0 {
			m.spoil()
		}
		switch r.Intn(8) {
		case 0:
			tabs = append(tabs, exactTable(t, 1))
		case 1:
			if len(tabs) > 0 {
				tabs[r.Intn(len(tabs))] = nil
			}
		case 2:
			r.Shuffle(len(tabs), func(i, j int) {
				tabs[i], tabs[j], m.tabs[i], m.tabs[j] = tabs[j], tabs[i], m.tabs[j], m.tabs[i]
			})
		case 3:
			b = make([]byte, 598+r.Intn(6))
		case 4:
			port = []int{-1, 0, 0xFFFF, 0x10000, math.MinInt, math.MaxInt}[r.Intn(6)]
		}
		told[wantLikeModel(t, m, tabs, b, port, map[string]int{}).Code]++
	}
	for _, code := range []int{0, api.ErrRange, api.ErrMany, api.ErrForm, api.ErrKind, api.ErrLong, api.ErrUnset, api.ErrRoom, api.ErrJump, api.ErrEnd} {
		if told[code] < 50 {
			t.Errorf("the code %d came %d times: %v", code, told[code], told)
		}
	}
}
