package word

import (
	"shuntyard/api"
)

const maxLoad = 8 // bytes that a register has room for

// The fields that an instruction may have beside Op.
const (
	hasR = 1 << iota
	hasS
	hasK
	hasTo
	hasN
)

// fields tells which fields the instruction op has.
func fields(op int) int {
	switch op {
	case api.INum, api.IGet, api.ISet:
		return hasR | hasN
	case api.IMove, api.IOnes:
		return hasR | hasS
	case api.IBin:
		return hasR | hasS | hasK
	case api.INot, api.ITail, api.IExit, api.IPort:
		return hasR
	case api.ILoad, api.ICall:
		return hasR | hasS | hasK | hasN
	case api.IRoom:
		return hasR | hasN | hasTo
	case api.ILess, api.IEqual:
		return hasR | hasS | hasTo
	case api.IJump:
		return hasTo
	case api.IPut:
		return hasR | hasK
	}
	return 0
}

// Check tells the first thing that is wrong with a program.
func Check(p api.Program) api.Fault {
	if fault := wrongSizes(p); fault.Code != 0 {
		return fault
	}
	for i := range p.Code {
		if code := wrongInstruction(p, i); code != 0 {
			return api.Fault{Code: code, At: i}
		}
	}
	last := len(p.Code) - 1
	if !Ends(p.Code[last].Op) {
		return api.Fault{Code: api.ErrEnd, At: last}
	}
	return api.Fault{}
}

// wrongSizes tells what is wrong with a program, whatever its instructions are.
func wrongSizes(p api.Program) api.Fault {
	switch {
	case !within(p.Slots, 0, api.MaxSlots):
		return api.Fault{Code: api.ErrRange, At: -1}
	case len(p.Tabs) > api.MaxTabs || !within(len(p.Code), 1, api.MaxCode):
		return api.Fault{Code: api.ErrMany, At: -1}
	}
	for i, t := range p.Tabs {
		if !isShape(t) {
			return api.Fault{Code: api.ErrRange, At: -2 - i}
		}
	}
	return api.Fault{}
}

func isShape(t api.Shape) bool {
	return within(t.Keys, 1, api.MaxKeys) && within(t.Acts, 1, api.MaxActs) && within(t.Args, 0, api.MaxParams)
}

// wrongInstruction tells the code of what is wrong with the instruction of the number at; 0 is nothing.
func wrongInstruction(p api.Program, at int) int {
	ins := p.Code[at]
	behind := len(p.Code) - 1 - at
	switch {
	case !isForm(ins) || !fits(p, ins):
		return api.ErrForm
	case fields(ins.Op)&hasTo != 0 && ins.To >= behind:
		return api.ErrJump
	}
	return 0
}

// isForm asks whether there may be such an instruction in some program.
func isForm(ins api.Ins) bool {
	return within(ins.Op, api.INum, api.IPort) && isBare(ins) && hasRegisters(ins) && ins.To >= 0
}

// isBare asks whether all fields are 0 that the instruction does not have.
func isBare(ins api.Ins) bool {
	has := fields(ins.Op)
	return (has&hasR != 0 || ins.R == 0) &&
		(has&hasS != 0 || ins.S == 0) &&
		(has&hasK != 0 || ins.K == 0) &&
		(has&hasTo != 0 || ins.To == 0) &&
		(has&hasN != 0 || ins.N == 0)
}

// hasRegisters leaves out S of ICall alone, which is a slot: a field that an instruction does not have is 0, and there is a register 0.
func hasRegisters(ins api.Ins) bool {
	return isRegister(ins.R) && (ins.Op == api.ICall || isRegister(ins.S))
}

func isRegister(r int) bool {
	return within(r, 0, api.MaxRegs-1)
}

// fits asks whether the numbers of an instruction, beside registers and To, are such as this program has room for.
func fits(p api.Program, ins api.Ins) bool {
	switch ins.Op {
	case api.IBin:
		return within(ins.K, api.PAdd, api.PEq)
	case api.ILoad:
		return within(ins.K, 1, maxLoad) && ins.N <= api.MaxPacket
	case api.IPut:
		return within(ins.K, 1, maxLoad)
	case api.IRoom:
		return ins.N <= api.MaxPacket
	case api.IGet, api.ISet:
		return ins.N < uint64(p.Slots)
	case api.ICall:
		return callFits(p, ins)
	}
	return true
}

// callFits asks whether there are the table that is called, the slots that it is asked for and those that it fills.
func callFits(p api.Program, ins api.Ins) bool {
	if ins.N >= uint64(len(p.Tabs)) {
		return false
	}
	t := p.Tabs[ins.N]
	// K is asked of a table without Args, too: else it would not always have room in the byte that it gets.
	return within(ins.S, 0, p.Slots-t.Keys) && within(ins.K, 0, p.Slots-t.Args)
}

func within(n, least, most int) bool {
	return n >= least && n <= most
}
