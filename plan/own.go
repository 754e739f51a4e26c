package plan

import (
	"shuntyard/api"
)

// Own tells a plan like p in memory of its own.
func Own(p api.Plan) api.Plan {
	return api.Plan{
		Heads:  each(p.Heads, ownHeader),
		Meta:   copied(p.Meta),
		States: each(p.States, ownState),
		Acts:   each(p.Acts, ownAction),
		Tabs:   each(p.Tabs, ownTable),
		Nodes:  each(p.Nodes, ownNode),
		Out:    copied(p.Out),
	}
}

func ownHeader(h api.Header) api.Header {
	h.W = copied(h.W)
	return h
}

func ownState(s api.State) api.State {
	s.Cases = copied(s.Cases)
	return s
}

func ownAction(a api.Action) api.Action {
	a.W = copied(a.W)
	a.Ops = each(a.Ops, ownOp)
	return a
}

func ownOp(o api.Op) api.Op {
	o.E = copied(o.E)
	return o
}

func ownTable(t api.Table) api.Table {
	t.Keys = copied(t.Keys)
	t.Acts = copied(t.Acts)
	t.Args = copied(t.Args)
	return t
}

func ownNode(n api.Node) api.Node {
	n.E = copied(n.E)
	return n
}

// copied tells the same list in memory of its own; what stands in it has no lists.
func copied[T any](l []T) []T {
	return append([]T(nil), l...)
}

// each tells what own makes of everything in l.
func each[T any](l []T, own func(T) T) []T {
	out := copied(l)
	for i, x := range out {
		out[i] = own(x)
	}
	return out
}
