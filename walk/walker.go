package walk

import (
	"shuntyard/api"
	"shuntyard/pack"
)

// walker goes over the states of the plan that it embeds, which plan.Check found right.
type walker struct {
	api.Plan
	ahead []Sets // of each state, and last of Accept, by the ways that were gone so far
}

// goOver goes all ways out of the state of that number, and tells the code of what is wrong with it. To where no way comes, none goes on.
func (w *walker) goOver(n int) int {
	if !w.ahead[n].There {
		return 0
	}
	v := visit{w, w.States[n], w.ahead[n]}
	if code := v.wrong(); code != 0 {
		return code
	}
	behind := v.behind()
	for _, c := range v.Cases {
		v.lead(c.To, behind)
	}
	v.lead(v.Else, behind)
	return 0
}

// lead lets a way come to where it leads.
func (w *walker) lead(to int, s Sets) {
	switch to {
	case api.Reject:
		return
	case api.Accept:
		to = len(w.States)
	}
	w.ahead[to] = w.ahead[to].join(s)
}

// visit is a walker at the state that it embeds, with what was taken ahead of it.
type visit struct {
	*walker
	api.State
	Sets
}

// wrong tells the code of what is wrong with the state.
func (v visit) wrong() int {
	own := bit(v.Head)
	switch {
	case v.May&own != 0:
		return api.ErrTwice
	case len(v.Cases) > 0 && bit(v.On.H)&^(v.Must|own) != 0:
		return api.ErrGone
	}
	return 0
}

// behind tells what was taken when the state has taken its header.
func (v visit) behind() Sets {
	s := v.Sets
	if v.Head < 0 {
		return s
	}
	size, _ := pack.Size(v.Heads[v.Head]) // of a right plan it has no fault
	s.Must |= bit(v.Head)
	s.May |= bit(v.Head)
	s.Least += size
	s.Most += size
	return s
}

// bit tells the bit of a header. What is below 0 is none (no header, or a place beside headers), and has no bit.
func bit(head int) uint64 {
	if head < 0 {
		return 0
	}
	return 1 << head
}
