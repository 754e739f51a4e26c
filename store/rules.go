package store

import (
	"cmp"
	"math/bits"
	"slices"

	"shuntyard/api"
)

// rules are what keys, entries and what is said are held against, in memory of their own.
type rules struct {
	kind   int
	widths []int
	may    []saying
}

// saying is an action that a table may tell of, and the widths of its parameters.
type saying struct {
	act    int
	params []int
}

// rulesOf tells the rules of a table whose Acts are all actions.
func rulesOf(t api.Table, w []int, acts []api.Action) rules {
	r := rules{kind: t.Kind, widths: append([]int(nil), w...)}
	for _, act := range t.Acts {
		r.may = append(r.may, saying{act, append([]int(nil), acts[act].W...)})
	}
	return r
}

// wrongEntry tells the code of why e may not be an entry, whatever else there is; 0, if it may.
func (r *rules) wrongEntry(e api.Entry) int {
	return cmp.Or(r.wrongPlace(e), r.wrongHit(hitOf(e)))
}

// wrongPlace tells the code of why what e is for is of another form than the table's; 0, if it is not.
func (r *rules) wrongPlace(e api.Entry) int {
	many := len(r.widths)
	masked := r.kind == api.KTernary
	switch {
	case len(e.Keys) != many || masked && len(e.Masks) != many:
		return api.ErrMany
	case !masked && (len(e.Masks) != 0 || e.Prio != 0) || r.kind != api.KPrefix && e.Len != 0:
		return api.ErrForm
	case !areNarrow(e.Keys, r.widths) || !areNarrow(e.Masks, r.widths):
		return api.ErrWidth
	}
	return 0
}

// wrongHit tells the code of why h may not be said; 0, if it may.
func (r *rules) wrongHit(h api.Hit) int {
	at := slices.IndexFunc(r.may, func(s saying) bool { return s.act == h.Act })
	switch {
	case at < 0:
		return api.ErrKind
	case len(h.Args) != len(r.may[at].params):
		return api.ErrMany
	case !areNarrow(h.Args, r.may[at].params):
		return api.ErrWidth
	}
	return 0
}

// areKeys asks whether the table may be asked for k.
func (r *rules) areKeys(k []uint64) bool {
	return len(k) == len(r.widths) && areNarrow(k, r.widths)
}

// areNarrow asks whether no number needs more bits than its width; there are no more numbers than widths.
func areNarrow(l []uint64, w []int) bool {
	for i, v := range l {
		if bits.Len64(v) > w[i] {
			return false
		}
	}
	return true
}

// isKind asks whether there are tables of that kind.
func isKind(kind int) bool {
	return kind == api.KExact || kind == api.KPrefix || kind == api.KTernary
}

// mostKeys tells how many numbers keys may have: a beginning is one of a single number.
func mostKeys(kind int) int {
	if kind == api.KPrefix {
		return 1
	}
	return api.MaxKeys
}

// within asks whether all the numbers are from low to high.
func within(low, high int, l ...int) bool {
	for _, v := range l {
		if v < low || v > high {
			return false
		}
	}
	return true
}
