package codec

import (
	"shuntyard/api"
)

// writer puts the bytes of a right plan together: of each thing only what it has.
type writer struct{ out []byte }

func (w *writer) plan(p api.Plan) {
	writeList(w, p.Heads, w.header)
	writeList(w, p.Meta, w.number)
	writeList(w, p.States, w.state)
	writeList(w, p.Acts, w.action)
	writeList(w, p.Tabs, w.table)
	writeList(w, p.Nodes, w.node)
	writeList(w, p.Out, w.number)
}

func (w *writer) header(h api.Header) {
	writeList(w, h.W, w.number)
}

// state writes no list of Cases: what they look at stands between how many there are, and they.
func (w *writer) state(s api.State) {
	w.numbers(s.Head, len(s.Cases))
	if len(s.Cases) > 0 {
		w.field(s.On)
	}
	for _, c := range s.Cases {
		w.plain(c.Value)
		w.plain(c.Mask)
		w.number(c.To)
	}
	w.number(s.Else)
}

func (w *writer) action(a api.Action) {
	writeList(w, a.W, w.number)
	writeList(w, a.Ops, w.deed)
}

func (w *writer) deed(o api.Op) {
	w.number(o.Kind)
	switch o.Kind {
	case api.OSet:
		w.field(o.R)
		w.tree(o.E)
	case api.OOn, api.OOff:
		w.number(o.Head)
	case api.OPort:
		w.tree(o.E)
	case api.OSum:
		w.field(o.R)
		w.number(o.Head)
	}
}

func (w *writer) tree(e []api.Push) {
	writeList(w, e, w.step)
}

func (w *writer) step(s api.Push) {
	w.number(s.Op)
	switch s.Op {
	case api.PNum:
		w.plain(s.N)
	case api.PRef:
		w.field(s.R)
	}
}

func (w *writer) table(t api.Table) {
	w.number(t.Kind)
	writeList(w, t.Keys, w.field)
	writeList(w, t.Acts, w.number)
	w.numbers(t.Cap, t.Def)
	writeList(w, t.Args, w.plain)
}

func (w *writer) node(n api.Node) {
	w.numbers(n.Kind, n.Yes)
	switch n.Kind {
	case api.NIf:
		w.tree(n.E)
		w.number(n.No)
	case api.NThere:
		w.numbers(n.N, n.No)
	default:
		w.number(n.N)
	}
}

func (w *writer) field(r api.Ref) {
	w.numbers(r.H, r.F)
}

func (w *writer) numbers(l ...int) {
	for _, n := range l {
		w.number(n)
	}
}

// number folds those below 0 in between the others, so that all that are near 0 stay short.
func (w *writer) number(n int) {
	double := uint64(n) << 1
	if n < 0 {
		double = ^double
	}
	w.plain(double)
}

func (w *writer) plain(n uint64) {
	for n > lowBits {
		w.out = append(w.out, byte(n&lowBits)|goesOn)
		n >>= groupSize
	}
	w.out = append(w.out, byte(n))
}

// writeList writes how many there are, and they.
func writeList[T any](w *writer, l []T, write func(T)) {
	w.number(len(l))
	for _, x := range l {
		write(x)
	}
}
