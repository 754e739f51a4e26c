package flow

import (
	"shuntyard/api"
)

// walker goes over the nodes of the plan that it embeds, with which walk.Walk found nothing wrong.
type walker struct {
	api.Plan
	ahead []uint64 // of each node, and last of the end, by the ways that were gone so far
}

// lead lets a way come to a node, or to the end.
func (w walker) lead(to int, s sure) {
	w.ahead[to] &= uint64(s)
}

// goOver goes all ways out of the node of that number, and tells whether all that it reads is there. To where no way comes, none goes on.
func (w walker) goOver(n int) bool {
	if w.ahead[n] == nowhere {
		return true
	}
	return visit{w, w.Nodes[n], sure(w.ahead[n])}.goOn()
}

// visit is a walker at the node that it embeds, with what is surely there ahead of it.
type visit struct {
	walker
	api.Node
	sure
}

// goOn goes to where the node leads, if all that it reads is there.
func (v visit) goOn() bool {
	switch v.Kind {
	case api.NTable:
		return v.ask(v.Tabs[v.N])
	case api.NDo:
		return v.do(v.N)
	case api.NIf:
		v.lead(v.Yes, v.sure)
		v.lead(v.No, v.sure)
		return v.hasTree(v.E)
	case api.NThere:
		v.lead(v.Yes, v.with(v.N))
		v.lead(v.No, v.without(v.N))
	}
	return true
}

// ask goes a way for each of a table's actions: any of them may be what it says.
func (v visit) ask(t api.Table) bool {
	if !v.hasKeys(t.Keys) {
		return false
	}
	for _, act := range t.Acts {
		if !v.do(act) {
			return false
		}
	}
	return true
}

// do goes the way by the action of that number.
func (v visit) do(act int) bool {
	d := doer{v.Acts[act], v.sure}
	for _, o := range d.Ops {
		if !d.deed(o) {
			return false
		}
	}
	v.lead(v.Yes, d.sure)
	return true
}

// doer goes over the deeds of the action that it embeds, with what is surely there behind those that were done.
type doer struct {
	api.Action
	sure
}

// deed does one, and tells whether all that it reads or sets is there.
func (d *doer) deed(o api.Op) bool {
	switch o.Kind {
	case api.OSet:
		return d.hasTree(o.E) && d.has(o.R.H)
	case api.OOn:
		d.sure = d.with(o.Head)
	case api.OOff:
		d.sure = d.without(o.Head)
	case api.OPort:
		return d.hasTree(o.E)
	case api.OSum:
		return d.has(o.R.H) && d.has(o.Head)
	}
	return true
}
