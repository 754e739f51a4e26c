package guard

import (
	"shuntyard/api"
)

// state is what is known ahead of an instruction.
type state struct {
	there bool // does any way come here?
	regs  [api.MaxRegs]register
	slots [api.MaxSlots]bool // is it set?
}

// join tells what is known where a way with t comes to where those of s came, if any did.
func (s state) join(t state) state {
	if !s.there {
		return t
	}
	for i := range s.regs {
		s.regs[i] = s.regs[i].join(t.regs[i])
	}
	for i := range s.slots {
		s.slots[i] = s.slots[i] && t.slots[i]
	}
	return s
}

// register is what is known of one. Of one that is not set nothing else is known.
type register struct {
	set  bool
	just maybe // the number that it surely has
	room maybe // how many bytes of the packet there surely are from its place on
}

// numbered tells what is known of a register that was given a number. The place 0 is in every packet, or right behind an empty one.
func numbered(n uint64) register {
	r := register{set: true, just: known(n)}
	if n == 0 {
		r.room = known(0)
	}
	return r
}

// bin tells what is known of a register when the step k has been done to it and to s.
func (r register) bin(k int, s register) register {
	out := register{set: true}
	if k != api.PAdd {
		return out
	}
	if r.just.is && s.just.is {
		out.just = known(r.just.number + s.just.number) // it wraps round, as the machine's sum does
	}
	if s.just.is && r.hasRoom(s.just.number) {
		out.room = known(r.room.number - s.just.number)
	}
	return out
}

// hasRoom asks whether there surely are n bytes from its place on.
func (r register) hasRoom(n uint64) bool {
	return r.room.is && n <= r.room.number
}

// withRoom tells the same with room for n bytes at least.
func (r register) withRoom(n uint64) register {
	if !r.hasRoom(n) {
		r.room = known(n)
	}
	return r
}

// join tells what is known of a register where two ways meet.
func (r register) join(t register) register {
	return register{
		set:  r.set && t.set,
		just: r.just.same(t.just),
		room: r.room.least(t.room),
	}
}

// maybe is a number, if it is known; else its number is 0.
type maybe struct {
	is     bool
	number uint64
}

func known(n uint64) maybe {
	return maybe{true, n}
}

// same tells the number that both are, if they are one.
func (m maybe) same(n maybe) maybe {
	if m != n {
		return maybe{}
	}
	return m
}

// least tells the lower one, if both are known.
func (m maybe) least(n maybe) maybe {
	if !m.is || !n.is {
		return maybe{}
	}
	return known(min(m.number, n.number))
}
