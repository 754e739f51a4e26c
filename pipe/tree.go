package pipe

import (
	"shuntyard/api"
	"shuntyard/plan"
)

// Apply tells what a step of an expression makes of two numbers; 0, if it is none that takes two.
func Apply(op int, a, b uint64) uint64 {
	switch op {
	case api.PAdd:
		return a + b
	case api.PSub:
		return a - b
	case api.PMul:
		return a * b
	case api.PAnd:
		return a & b
	case api.POr:
		return a | b
	case api.PXor:
		return a ^ b
	case api.PShl:
		return a << b
	case api.PShr:
		return a >> b
	case api.PLess:
		return oneIf(a < b)
	case api.PEq:
		return oneIf(a == b)
	}
	return 0
}

func oneIf(is bool) uint64 {
	if is {
		return 1
	}
	return 0
}

// reader tells what a field has.
type reader func(r api.Ref) uint64

// value tells the number of an expression that plan.Check found right.
func value(e []api.Push, read reader) uint64 {
	var stack []uint64
	for _, step := range e {
		from := len(stack) - plan.Takes(step.Op)
		stack = append(stack[:from], made(step, stack[from:], read))
	}
	return stack[0]
}

// made tells what a step makes of the numbers that it takes, the lowest one first.
func made(step api.Push, takes []uint64, read reader) uint64 {
	switch step.Op {
	case api.PNum:
		return step.N
	case api.PRef:
		return read(step.R)
	case api.PNot:
		return ^takes[0]
	}
	return Apply(step.Op, takes[0], takes[1])
}
