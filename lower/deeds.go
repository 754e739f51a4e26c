package lower

import (
	"slices"

	"shuntyard/api"
	"shuntyard/bits"
	"shuntyard/plan"
)

// do puts the deeds of an action, whose parameters stand in slots already.
func (m *maker) do(act int) {
	for _, o := range m.Acts[act].Ops {
		m.deed(o)
	}
}

// deed puts what does one.
func (m *maker) deed(o api.Op) {
	switch o.Kind {
	case api.OSet:
		m.tree(o.E)
		m.keep(o.R)
	case api.OOn:
		m.fill(1, m.there[o.Head])
	case api.OOff:
		// The fields, too: where it is there again they must be 0.
		m.fill(0, slices.Concat(m.fields[o.Head], m.there[o.Head:o.Head+1])...)
	case api.ODrop:
		// Whatever would be done behind it, nothing of that is to be seen.
		m.Put(api.Ins{Op: api.IDrop})
	case api.OPort:
		m.tree(o.E)
		m.Put(set(value, m.port))
	case api.OSum:
		m.sum(o.Head, o.R)
		m.keep(o.R)
	}
}

// tree puts what lets value be the number of an expression.
func (m *maker) tree(e []api.Push) {
	top := value
	for _, step := range e {
		top -= plan.Takes(step.Op)
		m.step(top, step)
		top++
	}
}

// step puts what makes a number in a register, of those that stand from there on.
func (m *maker) step(r int, s api.Push) {
	switch s.Op {
	case api.PNum:
		m.Put(number(r, s.N))
	case api.PRef:
		m.read(r, s.R)
	case api.PNot:
		m.Put(api.Ins{Op: api.INot, R: r})
	default:
		m.Put(binary(r, r+1, s.Op))
	}
}

// read puts what lets a register be what a field has.
func (m *maker) read(r int, f api.Ref) {
	if f.H == api.InPort {
		m.Put(api.Ins{Op: api.IPort, R: r})
		return
	}
	m.Put(get(r, m.slot(f)))
}

// keep puts what lets a field have the low bits of value, as many as it has.
func (m *maker) keep(f api.Ref) {
	m.turn(value, api.PAnd, bits.Mask(plan.Width(m.Plan, f, nil)))
	m.Put(set(value, m.slot(f)))
}
