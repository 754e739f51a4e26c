package vm

import (
	"shuntyard/api"
	"shuntyard/pipe"
	"shuntyard/store"
	"shuntyard/sum"
	"shuntyard/word"
)

const byteBits = 8

// machine is on its way through a program that word.Check found right.
type machine struct {
	regs   [api.MaxRegs]cell
	slots  [api.MaxSlots]cell
	shapes []api.Shape
	tabs   []*store.Store // as many as shapes
	packet []byte
	port   uint64 // by which it came in
	out    []byte
}

// run does instruction by instruction. It ends: each one leads on, never behind the last one, and that is an end.
func (m *machine) run(code []api.Ins) (api.Result, int, api.Fault) {
	at := 0
	for done := 1; ; done++ {
		ins := code[at]
		if wrong := m.step(ins); wrong != 0 {
			return api.Result{}, 0, api.Fault{Code: wrong, At: at}
		}
		if word.Ends(ins.Op) {
			return m.result(ins), done, api.Fault{}
		}
		at++
		if m.leads(ins) {
			at += ins.To
		}
	}
}

// step does an instruction, or tells the code of why it can't be done; 0 is none.
func (m *machine) step(ins api.Ins) int {
	if !m.isReady(ins) {
		return api.ErrUnset
	}
	switch ins.Op {
	case api.INum, api.IMove, api.IBin, api.INot, api.IOnes, api.IGet, api.IPort:
		m.regs[ins.R] = filled(m.made(ins))
	case api.ISet:
		m.slots[ins.N] = m.regs[ins.R]
	case api.ILoad:
		return m.load(ins)
	case api.ICall:
		return m.call(ins)
	case api.IPut:
		m.put(m.reg(ins.R), ins.K)
	case api.ITail:
		return m.tail(m.reg(ins.R))
	}
	return 0
}

// isReady asks whether all registers and slots that an instruction uses have something.
func (m *machine) isReady(ins api.Ins) bool {
	switch ins.Op {
	case api.IMove, api.ILoad:
		return areSet(m.regs[ins.S])
	case api.IBin, api.IOnes, api.ILess, api.IEqual:
		return areSet(m.regs[ins.R], m.regs[ins.S])
	case api.INot, api.ISet, api.IRoom, api.IPut, api.ITail, api.IExit:
		return areSet(m.regs[ins.R])
	case api.IGet:
		return areSet(m.slots[ins.N])
	case api.ICall:
		return areSet(m.keys(ins)...)
	}
	return true
}

// made tells the number that an instruction makes of registers, slots and the port.
func (m *machine) made(ins api.Ins) uint64 {
	switch ins.Op {
	case api.INum:
		return ins.N
	case api.IMove:
		return m.reg(ins.S)
	case api.IBin:
		return pipe.Apply(ins.K, m.reg(ins.R), m.reg(ins.S))
	case api.INot:
		return ^m.reg(ins.R)
	case api.IOnes:
		return uint64(sum.Add(int(m.reg(ins.R)), int(m.reg(ins.S)))) // Add itself looks at low bits alone
	case api.IGet:
		return m.slots[ins.N].number
	}
	return m.port
}

// leads asks whether it goes on over To instructions.
func (m *machine) leads(ins api.Ins) bool {
	switch ins.Op {
	case api.IRoom:
		return !m.hasRoom(m.reg(ins.R), ins.N)
	case api.ILess:
		return m.reg(ins.R) < m.reg(ins.S)
	case api.IEqual:
		return m.reg(ins.R) == m.reg(ins.S)
	}
	return ins.Op == api.IJump
}

// load lets a register have K bytes of the packet, or tells a code.
func (m *machine) load(ins api.Ins) int {
	from, long := m.reg(ins.S), uint64(ins.K)
	if !m.hasRoom(from, ins.N+long) {
		return api.ErrRoom
	}
	from += ins.N
	var number uint64
	for _, b := range m.packet[from : from+long] {
		number = number<<byteBits | uint64(b)
	}
	m.regs[ins.R] = filled(number)
	return 0
}

// call asks a table, and keeps what it says, or tells a code.
func (m *machine) call(ins api.Ins) int {
	shape := m.shapes[ins.N]
	hit, _ := m.tabs[ins.N].Find(numbers(m.keys(ins)...))
	if hit.Act >= shape.Acts || len(hit.Args) > shape.Args {
		return api.ErrKind
	}
	m.regs[ins.R] = filled(uint64(hit.Act))
	said := m.slots[ins.K : ins.K+shape.Args]
	for i := range said {
		said[i] = filled(0)
	}
	for i, v := range hit.Args {
		said[i] = filled(v)
	}
	return 0
}

// keys tells the slots for which a table is asked.
func (m *machine) keys(ins api.Ins) []cell {
	return m.slots[ins.S : ins.S+m.shapes[ins.N].Keys]
}

// put sends out the low bytes of a number, as many as long, the uppermost of them first.
func (m *machine) put(number uint64, long int) {
	for i := long - 1; i >= 0; i-- {
		m.send(byte(number >> (byteBits * i)))
	}
}

// tail sends out all bytes of the packet from a place on, or tells a code.
func (m *machine) tail(from uint64) int {
	if !m.hasRoom(from, 0) {
		return api.ErrRoom
	}
	m.send(m.packet[from:]...)
	return 0
}

func (m *machine) send(b ...byte) {
	m.out = append(m.out, b...)
}

// hasRoom asks whether the packet has so many bytes from a place on. The two are not added: from may be so great that this would wrap round.
func (m *machine) hasRoom(from, long uint64) bool {
	all := uint64(len(m.packet))
	return from <= all && long <= all-from
}

func (m *machine) reg(n int) uint64 {
	return m.regs[n].number
}

// result tells where the packet goes out by an instruction that ends, and what.
func (m *machine) result(ins api.Ins) api.Result {
	if ins.Op == api.IDrop {
		return api.Result{Port: nowhere}
	}
	return api.Result{Port: int(m.reg(ins.R) & mostPort), Bytes: m.out}
}
