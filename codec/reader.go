package codec

import (
	"shuntyard/api"
)

// reader reads a plan out of bytes, from a place on. Where it can't go on it panics with gaveUp, so that what it reads need not be asked for faults piece by piece.
type reader struct {
	in []byte
	at int
}

// gaveUp is what a reader panics with, and nobody else.
type gaveUp struct{ api.Fault }

func giveUp(code, at int) {
	panic(gaveUp{api.Fault{Code: code, At: at}})
}

// readPlan tells the plan that stands behind the mark, to the end of in, right or not. With a fault, what it tells is none.
func readPlan(in []byte) (p api.Plan, fault api.Fault) {
	defer func() {
		switch x := recover().(type) {
		case nil:
		case gaveUp:
			fault = x.Fault
		default:
			panic(x)
		}
	}()
	r := &reader{in, len(mark)}
	p = r.plan()
	if r.at < len(in) {
		giveUp(api.ErrForm, r.at)
	}
	return p, api.Fault{}
}

func (r *reader) plan() (p api.Plan) {
	p.Heads = readList(r, r.header)
	p.Meta = readList(r, r.number)
	p.States = readList(r, r.state)
	p.Acts = readList(r, r.action)
	p.Tabs = readList(r, r.table)
	p.Nodes = readList(r, r.node)
	p.Out = readList(r, r.number)
	return p
}

func (r *reader) header() api.Header {
	return api.Header{W: readList(r, r.number)}
}

func (r *reader) state() (s api.State) {
	s.Head = r.number()
	s.Cases = make([]api.Case, r.count())
	if len(s.Cases) > 0 {
		s.On = r.field()
	}
	for i := range s.Cases {
		s.Cases[i] = r.oneCase()
	}
	s.Else = r.number()
	return s
}

func (r *reader) oneCase() (c api.Case) {
	c.Value = r.plain()
	c.Mask = r.plain()
	c.To = r.number()
	return c
}

func (r *reader) action() (a api.Action) {
	a.W = readList(r, r.number)
	a.Ops = readList(r, r.deed)
	return a
}

func (r *reader) deed() (o api.Op) {
	o.Kind = r.number()
	switch o.Kind {
	case api.OSet:
		o.R = r.field()
		o.E = r.tree()
	case api.OOn, api.OOff:
		o.Head = r.number()
	case api.OPort:
		o.E = r.tree()
	case api.OSum:
		o.R = r.field()
		o.Head = r.number()
	}
	return o
}

func (r *reader) tree() []api.Push {
	return readList(r, r.step)
}

func (r *reader) step() (s api.Push) {
	s.Op = r.number()
	switch s.Op {
	case api.PNum:
		s.N = r.plain()
	case api.PRef:
		s.R = r.field()
	}
	return s
}

func (r *reader) table() (t api.Table) {
	t.Kind = r.number()
	t.Keys = readList(r, r.field)
	t.Acts = readList(r, r.number)
	t.Cap = r.number()
	t.Def = r.number()
	t.Args = readList(r, r.plain)
	return t
}

func (r *reader) node() (n api.Node) {
	n.Kind = r.number()
	n.Yes = r.number()
	switch n.Kind {
	case api.NIf:
		n.E = r.tree()
		n.No = r.number()
	case api.NThere:
		n.N = r.number()
		n.No = r.number()
	default:
		n.N = r.number()
	}
	return n
}

func (r *reader) field() (f api.Ref) {
	f.H = r.number()
	f.F = r.number()
	return f
}

// count reads how many there are of something. Each takes a byte at least: there are never more than bytes, however many are asked for.
func (r *reader) count() int {
	from := r.at
	n := r.number()
	if n < 0 || n > len(r.in)-r.at {
		giveUp(api.ErrMany, from)
	}
	return n
}

func (r *reader) number() int {
	double := r.plain()
	if double&1 == 1 {
		return ^int(double >> 1)
	}
	return int(double >> 1)
}

// plain takes a number in its one form alone: of as few bytes as can be.
func (r *reader) plain() uint64 {
	n := uint64(0)
	for place := 0; ; place += groupSize {
		from := r.at
		b := r.next()
		if place == lastGroup && b > 1 || place > 0 && b == 0 {
			giveUp(api.ErrRange, from)
		}
		n |= uint64(b&lowBits) << place
		if b < goesOn {
			return n
		}
	}
}

func (r *reader) next() byte {
	if r.at == len(r.in) {
		giveUp(api.ErrShort, len(r.in))
	}
	b := r.in[r.at]
	r.at++
	return b
}

// readList reads how many there are, and they, by the function that is handed over.
func readList[T any](r *reader, read func() T) []T {
	l := make([]T, r.count())
	for i := range l {
		l[i] = read()
	}
	return l
}
