package plan

import (
	"cmp"
	"math/bits"
	"slices"

	"shuntyard/api"
	"shuntyard/pack"
	"shuntyard/store"
)

// judge goes over the plan that it embeds. What it is asked for is told by a code, 0 being nothing wrong. It is asked for a thing only if the parts of the plan ahead of it are right.
type judge struct{ api.Plan }

// head judges the header of that number.
func (j judge) head(n int) int {
	_, fault := pack.Size(j.Heads[n])
	return fault.Code
}

// meta judges the field beside headers of that number.
func (j judge) meta(n int) int {
	return wrongWidth(j.Meta[n])
}

// state judges the state of that number.
func (j judge) state(n int) int {
	s := j.States[n]
	switch {
	case s.Head != -1 && !isOf(j.Heads, s.Head):
		return api.ErrRange
	case len(s.Cases) > api.MaxCases:
		return api.ErrMany
	case len(s.Cases) > 0 && !j.isField(s.On, nil):
		return api.ErrRange
	}
	looks := looker{j, s, n}
	return cmp.Or(first(s.Cases, looks.wrongCase), looks.wrongWay(s.Else))
}

// looker goes over the state that it embeds, which has that number.
type looker struct {
	judge
	api.State
	number int
}

// wrongCase judges a case; the field that is looked at is one.
func (l looker) wrongCase(c api.Case) int {
	if bits.Len64(c.Mask) > Width(l.Plan, l.On, nil) || c.Value&^c.Mask != 0 {
		return api.ErrWidth
	}
	return l.wrongWay(c.To)
}

// wrongWay judges where the state leads: states lead on, lest a parser never ends.
func (l looker) wrongWay(to int) int {
	switch {
	case to == api.Accept || to == api.Reject:
		return 0
	case !isOf(l.States, to):
		return api.ErrRange
	case to <= l.number:
		return api.ErrRound
	}
	return 0
}

// action judges the action of that number.
func (j judge) action(n int) int {
	a := j.Acts[n]
	if len(a.W) > api.MaxParams || len(a.Ops) > api.MaxOps {
		return api.ErrMany
	}
	return cmp.Or(first(a.W, wrongWidth), first(a.Ops, doer{j, a}.wrongDeed))
}

// doer goes over the action that it embeds.
type doer struct {
	judge
	api.Action
}

// wrongDeed judges a deed, whose expression may name the action's parameters.
func (d doer) wrongDeed(o api.Op) int {
	switch o.Kind {
	case api.OSet:
		return cmp.Or(d.wrongTarget(o.R), d.wrongTree(o.E, d.W))
	case api.OOn, api.OOff:
		return wrongNumber(d.Heads, o.Head)
	case api.ODrop:
		return 0
	case api.OPort:
		return d.wrongTree(o.E, d.W)
	case api.OSum:
		return cmp.Or(d.wrongTarget(o.R), wrongNumber(d.Heads, o.Head))
	}
	return api.ErrKind
}

// table judges the table of that number.
func (j judge) table(n int) int {
	t := j.Tabs[n]
	if len(t.Keys) > api.MaxKeys {
		return api.ErrMany
	}
	w := Widths(j.Plan, t)
	if slices.Contains(w, 0) {
		return api.ErrRange
	}
	return store.Check(t, w, j.Acts)
}

// node judges the node of that number.
func (j judge) node(n int) int {
	x := j.Nodes[n]
	ways := []int{x.Yes}
	if x.Kind == api.NIf || x.Kind == api.NThere {
		ways = append(ways, x.No)
	}
	onward := func(to int) int { return j.wrongStep(n, to) }
	return cmp.Or(j.wrongUse(x), first(ways, onward))
}

// wrongUse judges what a node asks for, wherever it leads.
func (j judge) wrongUse(x api.Node) int {
	switch x.Kind {
	case api.NTable:
		return wrongNumber(j.Tabs, x.N)
	case api.NDo:
		return j.wrongDo(x.N)
	case api.NIf:
		return j.wrongTree(x.E, nil)
	case api.NThere:
		return wrongNumber(j.Heads, x.N)
	}
	return api.ErrKind
}

// wrongDo judges the number of an action that is to be done by itself: nobody would say its parameters.
func (j judge) wrongDo(act int) int {
	switch {
	case !isOf(j.Acts, act):
		return api.ErrRange
	case len(j.Acts[act].W) > 0:
		return api.ErrMany
	}
	return 0
}

// wrongStep judges a way from node to node; the number behind the last one is the end.
func (j judge) wrongStep(from, to int) int {
	switch {
	case to < 0 || to > len(j.Nodes):
		return api.ErrRange
	case to <= from:
		return api.ErrRound
	}
	return 0
}

// out judges what goes out at that place.
func (j judge) out(n int) int {
	switch {
	case !isOf(j.Heads, j.Out[n]):
		return api.ErrRange
	case slices.Contains(j.Out[:n], j.Out[n]):
		return api.ErrTwice
	}
	return 0
}

// wrongTree judges an expression, which may name parameters of the widths args.
func (j judge) wrongTree(e []api.Push, args []int) int {
	if len(e) > api.MaxTree {
		return api.ErrMany
	}
	left := 0
	for _, step := range e {
		takes := Takes(step.Op)
		switch {
		case takes < 0 || takes > left:
			return api.ErrTree
		case step.Op == api.PRef && !j.isField(step.R, args):
			return api.ErrRange
		}
		left += 1 - takes
	}
	if left != 1 {
		return api.ErrTree
	}
	return 0
}

// wrongTarget judges a field that is to be set. Where a packet came in can't be, nor can a parameter: it is asked for without any.
func (j judge) wrongTarget(r api.Ref) int {
	if r.H == api.InPort || !j.isField(r, nil) {
		return api.ErrRange
	}
	return 0
}

// isField asks whether there is such a field, args being the widths of the parameters; no width of a right plan is 0.
func (j judge) isField(r api.Ref, args []int) bool {
	return Width(j.Plan, r, args) != 0
}

// wrongWidth judges the width of a field or of a parameter.
func wrongWidth(w int) int {
	if w < 1 || w > api.MaxWidth {
		return api.ErrWidth
	}
	return 0
}

// wrongNumber judges a number of something in l.
func wrongNumber[T any](l []T, n int) int {
	if !isOf(l, n) {
		return api.ErrRange
	}
	return 0
}

// isOf asks whether there is something of that number in l.
func isOf[T any](l []T, n int) bool {
	return n >= 0 && n < len(l)
}

// first tells the first code that is not 0 of what stands in l.
func first[T any](l []T, wrong func(T) int) int {
	for _, x := range l {
		if code := wrong(x); code != 0 {
			return code
		}
	}
	return 0
}
