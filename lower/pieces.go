package lower

import (
	"shuntyard/api"
)

func number(r int, n uint64) api.Ins {
	return api.Ins{Op: api.INum, R: r, N: n}
}

func binary(r, s, op int) api.Ins {
	return api.Ins{Op: api.IBin, R: r, S: s, K: op}
}

func get(r, slot int) api.Ins {
	return api.Ins{Op: api.IGet, R: r, N: uint64(slot)}
}

func set(r, slot int) api.Ins {
	return api.Ins{Op: api.ISet, R: r, N: uint64(slot)}
}

func jump(label int) api.Ins {
	return api.Ins{Op: api.IJump, To: label}
}

// turn puts what does a step of an expression to a register and n.
func (m *maker) turn(r, op int, n uint64) {
	m.Put(number(help, n), binary(r, help, op))
}

// fill puts what lets slots have a number.
func (m *maker) fill(n uint64, slots ...int) {
	m.Put(number(value, n))
	for _, slot := range slots {
		m.Put(set(value, slot))
	}
}

// leadIf puts what leads to a label if value is n.
func (m *maker) leadIf(n uint64, label int) {
	m.Put(number(help, n), api.Ins{Op: api.IEqual, R: value, S: help, To: label})
}
