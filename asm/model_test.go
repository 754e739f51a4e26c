package asm

import (
	"bytes"
	"math"
	"math/rand"
	"slices"
	"testing"

	"shuntyard/api"
	"shuntyard/vm"
	"shuntyard/word"
)

// The model writes down one behind the other what was put and what was marked, and looks for a label by going on from an instruction, or back.

// piece is an instruction, or the mark of a label.
type piece struct {
	isMark bool
	label  int
	ins    api.Ins
}

type model struct {
	labels int
	pieces []piece
}

func (m *model) Label() int {
	m.labels++
	return m.labels - 1
}

// marks asks whether a label is marked in some pieces.
func marks(l []piece, label int) bool {
	return slices.ContainsFunc(l, func(p piece) bool { return p.isMark && p.label == label })
}

// count tells how many instructions some pieces have.
func count(l []piece) int {
	n := 0
	for _, p := range l {
		if !p.isMark {
			n++
		}
	}
	return n
}

func (m *model) Mark(l int) bool {
	if l < 0 || l >= m.labels || marks(m.pieces, l) {
		return false
	}
	m.pieces = append(m.pieces, piece{isMark: true, label: l})
	return true
}

func (m *model) Put(l ...api.Ins) {
	for _, ins := range l {
		m.pieces = append(m.pieces, piece{ins: ins})
	}
}

func (m *model) Len() int { return count(m.pieces) }

func (m *model) Done(slots int, tabs []api.Shape) (api.Program, api.Fault) {
	p := api.Program{Slots: slots, Tabs: tabs}
	for i, x := range m.pieces {
		if x.isMark {
			continue
		}
		ins, at := x.ins, len(p.Code)
		switch ins.Op {
		case api.IRoom, api.ILess, api.IEqual, api.IJump:
			behind := m.pieces[i+1:]
			switch {
			case marks(m.pieces[:i], ins.To):
				return api.Program{}, fault(api.ErrRound, at)
			case !marks(behind, ins.To):
				return api.Program{}, fault(api.ErrNone, at)
			}
			end := slices.IndexFunc(behind, func(p piece) bool { return p.isMark && p.label == ins.To })
			ins.To = count(behind[:end])
		}
		p.Code = append(p.Code, ins)
	}
	if f := word.Check(p); f != right {
		return api.Program{}, f
	}
	return p, right
}

// someLabel tells one that is there, mostly.
func someLabel(r *rand.Rand, labels int) int {
	switch r.Intn(12) {
	case 0:
		return labels + r.Intn(2)
	case 1:
		return -1 - r.Intn(2)
	case 2:
		return []int{math.MaxInt, math.MinInt}[r.Intn(2)]
	}
	return r.Intn(labels + 1)
}

// someIns tells one that leads to one of the labels or to none, or another one, now and then a wrong one.
func someIns(r *rand.Rand, labels []int) api.Ins {
	if len(labels) > 0 && r.Intn(2) == 0 {
		return leading(labels[r.Intn(len(labels))])[r.Intn(4)]
	}
	ins := others()[r.Intn(14)]
	if r.Intn(60) == 0 {
		ins.To = r.Intn(4) - 1
	}
	if r.Intn(60) == 0 {
		ins.Op = r.Intn(21) - 1
	}
	return ins
}

// waiting tells the labels that are not marked yet.
func (m *model) waiting() []int {
	var l []int
	for i := range m.labels {
		if !marks(m.pieces, i) {
			l = append(l, i)
		}
	}
	return l
}

// both is asked of an Asm and of the model at once.
type both struct {
	t *testing.T
	a *Asm
	m *model
}

func (b both) label() {
	if got, want := b.a.Label(), b.m.Label(); got != want {
		b.t.Errorf("the label %d, want %d", got, want)
	}
}

func (b both) mark(l int) {
	if got, want := b.a.Mark(l), b.m.Mark(l); got != want {
		b.t.Errorf("marked %d: %v, want %v", l, got, want)
	}
}

func (b both) put(l ...api.Ins) {
	b.a.Put(l...)
	b.m.Put(l...)
}

// done tells the fault's code.
func (b both) done(slots int, tabs []api.Shape) int {
	got, f := b.a.Done(slots, tabs)
	want, g := b.m.Done(slots, tabs)
	if f != g || got.Slots != want.Slots || !slices.Equal(got.Tabs, want.Tabs) || !slices.Equal(got.Code, want.Code) {
		b.t.Errorf("%v: %v, %v, want %v, %v", b.m.pieces, got, f, want, g)
	}
	if b.a.Len() != b.m.Len() {
		b.t.Errorf("%d instructions, want %d", b.a.Len(), b.m.Len())
	}
	return f.Code
}

// step does something by chance; careful ones lead on to labels alone that will be marked.
func (b both) step(r *rand.Rand, careful bool) {
	switch r.Intn(6) {
	case 0:
		b.label()
	case 1:
		b.mark(someLabel(r, b.m.labels))
	case 2:
		b.done(10, shapes())
	default:
		labels := b.m.waiting()
		if !careful && r.Intn(10) == 0 {
			labels = []int{someLabel(r, b.m.labels)}
		}
		var l []api.Ins
		for range r.Intn(4) {
			l = append(l, someIns(r, labels))
		}
		b.put(l...)
	}
}

// finish marks what is not marked yet, and puts an end behind it.
func (b both) finish(r *rand.Rand) {
	for _, l := range b.m.waiting() {
		b.mark(l)
		if r.Intn(2) == 0 {
			b.put(num(0, 0))
		}
	}
	b.put(drop)
}

func TestLikeTheModel(t *testing.T) {
	r := rand.New(rand.NewSource(16))
	codes := make([]int, 21)
	for range 20000 {
		b := both{t, New(), &model{}}
		careful := r.Intn(2) == 0
		for range r.Intn(30) {
			b.step(r, careful)
		}
		codes[b.done(r.Intn(100)-1, shapes()[:r.Intn(3)])]++
		if r.Intn(4) > 0 {
			b.finish(r)
		}
		codes[b.done(10, shapes())]++
		if t.Failed() {
			return
		}
	}
	for _, code := range []int{0, api.ErrNone, api.ErrRound, api.ErrForm, api.ErrJump, api.ErrEnd, api.ErrMany, api.ErrRange} {
		if codes[code] < 50 {
			t.Errorf("the code %d was told %d times", code, codes[code])
		}
	}
}

// follow runs the model's pieces themselves: a way to a label goes on at its mark.
func (m *model) follow(b []byte) []byte {
	var regs [2]uint64
	var out []byte
	for at := 0; at < len(m.pieces); at++ {
		p := m.pieces[at]
		if p.isMark {
			continue
		}
		taken := false
		switch ins := p.ins; ins.Op {
		case api.INum:
			regs[ins.R] = ins.N
		case api.IPut:
			out = append(out, byte(regs[ins.R]))
		case api.IRoom:
			taken = regs[ins.R]+ins.N > uint64(len(b))
		case api.ILess:
			taken = regs[ins.R] < regs[ins.S]
		case api.IEqual:
			taken = regs[ins.R] == regs[ins.S]
		case api.IJump:
			taken = true
		}
		if taken {
			at = slices.IndexFunc(m.pieces, func(x piece) bool { return x.isMark && x.label == p.ins.To })
		}
	}
	return out
}

// someWays puts together what leads on to labels, and numbers that go out between, so that each way is to be seen.
func someWays(r *rand.Rand) both {
	b := both{a: New(), m: &model{}}
	b.put(num(0, 0), num(1, 1))
	for range 5 + r.Intn(30) {
		l := b.m.waiting()
		switch {
		case len(l) == 0 || r.Intn(4) == 0:
			b.label()
		case r.Intn(3) == 0:
			b.mark(l[r.Intn(len(l))])
		default:
			to := l[r.Intn(len(l))]
			b.put([]api.Ins{room(0, uint64(r.Intn(4)), to), less(0, 1, to), equal(1, 0, to), jump(to)}[r.Intn(4)])
		}
		b.put(num(r.Intn(2), uint64(r.Intn(4))), api.Ins{Op: api.IPut, R: r.Intn(2), K: 1})
	}
	for _, l := range b.m.waiting() {
		b.mark(l)
		b.put(num(0, uint64(l)), api.Ins{Op: api.IPut, R: 0, K: 1})
	}
	b.put(exit(0))
	return b
}

// The machine goes to where the labels stand.
func TestRunsFollowLabels(t *testing.T) {
	r := rand.New(rand.NewSource(61))
	for range 3000 {
		b := someWays(r)
		b.t = t
		p, f := b.a.Done(0, nil)
		if f != right {
			t.Fatalf("%v: %v", b.m.pieces, f)
		}
		for n := range 5 {
			packet := make([]byte, n)
			want := b.m.follow(packet)
			got, _, f := vm.Run(p, nil, packet, 0)
			if f != right || !bytes.Equal(got.Bytes, want) {
				t.Fatalf("%v: %v, %v, want %v", b.m.pieces, got, f, want)
			}
		}
	}
}
