package guard

import (
	"slices"

	"shuntyard/api"
	"shuntyard/word"
)

// walker goes over the instructions of the program that it embeds, which word.Check found right.
type walker struct {
	api.Program
	ahead []state // of each instruction, by the ways that were gone so far
}

// goOver goes all ways out of the instruction of that number, and tells the code of what may go wrong there; 0 is nothing. To where no way comes, none goes on.
func (w *walker) goOver(at int) int {
	if !w.ahead[at].there {
		return 0
	}
	v := &visit{w, w.Code[at], w.ahead[at]}
	if code := v.wrong(); code != 0 {
		return code
	}
	// Where it leads, no more is known than ahead of it: this way goes out first.
	if v.leads() {
		w.lead(at+1+v.To, v.state)
	}
	if v.goesOn() {
		v.goBehind()
		w.lead(at+1, v.state)
	}
	return 0
}

// lead lets a way come to an instruction.
func (w *walker) lead(to int, s state) {
	w.ahead[to] = w.ahead[to].join(s)
}

// visit is a walker at the instruction that it embeds, with what is known ahead of it.
type visit struct {
	*walker
	api.Ins
	state
}

// leads asks whether a way goes over others from here.
func (v *visit) leads() bool {
	return v.Op == api.IRoom || v.Op == api.ILess || v.Op == api.IEqual || v.Op == api.IJump
}

// goesOn asks whether a way goes to the next one from here.
func (v *visit) goesOn() bool {
	return v.Op != api.IJump && !word.Ends(v.Op)
}

// wrong tells the code of what may go wrong here; 0 is nothing.
func (v *visit) wrong() int {
	switch {
	case !v.isReady():
		return api.ErrUnset
	case v.Op == api.ILoad && !v.regs[v.S].hasRoom(v.N+uint64(v.K)):
		return api.ErrRoom
	case v.Op == api.ITail && !v.regs[v.R].hasRoom(0):
		return api.ErrRoom
	case slices.Contains(v.asked(), false):
		return api.ErrUnset
	}
	return 0
}

// isReady asks whether all registers that are used here are set.
func (v *visit) isReady() bool {
	switch v.Op {
	case api.IMove, api.ILoad:
		return v.regs[v.S].set
	case api.IBin, api.IOnes, api.ILess, api.IEqual:
		return v.regs[v.R].set && v.regs[v.S].set
	case api.INot, api.ISet, api.IRoom, api.IPut, api.ITail, api.IExit:
		return v.regs[v.R].set
	}
	return true
}

// asked tells the slots that are used here.
func (v *visit) asked() []bool {
	switch v.Op {
	case api.IGet:
		return v.slots[v.N : v.N+1]
	case api.ICall:
		return v.slots[v.S : v.S+v.Tabs[v.N].Keys]
	}
	return nil
}

// goBehind makes of what is known ahead what the next one knows.
func (v *visit) goBehind() {
	switch v.Op {
	case api.INum:
		v.regs[v.R] = numbered(v.N)
	case api.IMove:
		v.regs[v.R] = v.regs[v.S]
	case api.IBin:
		v.regs[v.R] = v.regs[v.R].bin(v.K, v.regs[v.S])
	case api.INot, api.IOnes, api.IPort, api.ILoad, api.IGet:
		v.regs[v.R] = register{set: true}
	case api.ISet:
		v.slots[v.N] = true
	case api.ICall:
		v.regs[v.R] = register{set: true}
		for i := range v.Tabs[v.N].Args {
			v.slots[v.K+i] = true
		}
	case api.IRoom:
		v.regs[v.R] = v.regs[v.R].withRoom(v.N)
	}
}
