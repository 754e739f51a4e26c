package lower

import (
	"slices"

	"shuntyard/api"
	"shuntyard/asm"
)

// Registers. An expression of MaxTree steps has at most four numbers at once: they stand in the registers from value on.
const (
	value = 0 // what is made or done just now
	help  = 5 // a number that is used on the spot
	total = 6 // what grows field by field
	place = 7 // how many bytes of the packet were taken; nothing else is put there, so that the guard never loses sight of the room behind it
)

// maker puts together the program of the plan that it embeds, with which flow.Check found nothing wrong.
type maker struct {
	api.Plan
	*asm.Asm
	layout
	states  []int // of each state, its label
	nodes   []int // of each node, and last of the end
	nowhere int   // the label of where packets go nowhere
}

func makerOf(p api.Plan) *maker {
	m := &maker{Plan: p, Asm: asm.New(), layout: layoutOf(p)}
	m.states = m.labels(len(p.States))
	m.nodes = m.labels(len(p.Nodes) + 1)
	m.nowhere = m.Label()
	return m
}

// labels tells so many labels more.
func (m *maker) labels(many int) []int {
	out := make([]int, many)
	for i := range out {
		out[i] = m.Label()
	}
	return out
}

// putAll puts the whole program. States and nodes lead on, never back: each label is marked behind all that leads to it.
func (m *maker) putAll() {
	m.fill(0, m.all()...) // so that the guard never finds a slot without something
	m.Put(number(place, 0))
	for n := range m.States {
		m.putState(n)
	}
	for n := range m.Nodes {
		m.putNode(n)
	}
	m.putEnd()
}

// putState puts what takes the header of a state, and where it leads.
func (m *maker) putState(n int) {
	s := m.States[n]
	m.Mark(m.states[n])
	if s.Head >= 0 {
		m.take(s.Head)
	}
	// Without Cases On may be anything: it is read for one alone.
	for _, c := range s.Cases {
		m.read(value, s.On)
		m.turn(value, api.PAnd, c.Mask)
		m.leadIf(c.Value, m.way(c.To))
	}
	m.Put(jump(m.way(s.Else)))
}

// way tells the label of where a state leads.
func (m *maker) way(to int) int {
	switch to {
	case api.Accept:
		return m.nodes[0]
	case api.Reject:
		return m.nowhere
	}
	return m.states[to]
}

// putNode puts what a node does, and where it leads.
func (m *maker) putNode(n int) {
	x := m.Nodes[n]
	m.Mark(m.nodes[n])
	switch x.Kind {
	case api.NTable:
		m.ask(x.N)
	case api.NDo:
		m.do(x.N)
	case api.NIf:
		m.tree(x.E)
		m.leadIf(0, m.nodes[x.No])
	case api.NThere:
		m.Put(get(value, m.there[x.N]))
		m.leadIf(0, m.nodes[x.No])
	}
	m.Put(jump(m.nodes[x.Yes]))
}

// ask puts what asks a table, and each action that it may say.
func (m *maker) ask(n int) {
	t := m.Tabs[n]
	for i, key := range t.Keys {
		m.read(value, key)
		m.Put(set(value, m.keys[i]))
	}
	m.Put(api.Ins{Op: api.ICall, R: value, S: m.keys[0], K: m.said[0], N: uint64(n)})
	acts := slices.Compact(slices.Sorted(slices.Values(t.Acts)))
	ways, behind := m.labels(len(acts)), m.Label()
	// It says nothing else than one of these: that the first one would be done else is never to be seen.
	for i, act := range acts {
		m.leadIf(uint64(act), ways[i])
	}
	for i, act := range acts {
		m.Mark(ways[i])
		m.do(act)
		m.Put(jump(behind))
	}
	m.Mark(behind)
}

// putEnd puts what lets a packet go out, and last what lets one go nowhere.
func (m *maker) putEnd() {
	m.Mark(m.nodes[len(m.Nodes)])
	for _, head := range m.Out {
		behind := m.Label()
		m.Put(get(value, m.there[head]))
		m.leadIf(0, behind)
		m.write(head)
		m.Mark(behind)
	}
	m.Put(
		api.Ins{Op: api.ITail, R: place},
		get(value, m.port),
		api.Ins{Op: api.IExit, R: value}, // by its low bits alone, whatever OPort's number is
	)
	m.Mark(m.nowhere)
	m.Put(api.Ins{Op: api.IDrop})
}
