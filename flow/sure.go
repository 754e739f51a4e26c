package flow

import (
	"math"

	"shuntyard/api"
)

// nowhere stands where no way comes: of no ways at all, every header is there on all. Where a way comes it can't stand, for no plan has so many headers.
const nowhere = math.MaxUint64

// sure is the headers that are there on all ways, the bit 1 << number each.
type sure uint64

// with tells the same with a header.
func (s sure) with(head int) sure {
	return s | 1<<head
}

// without tells the same without a header.
func (s sure) without(head int) sure {
	return s &^ (1 << head)
}

// has asks whether a header is there. What is below 0 is a place beside headers, whose fields always are.
func (s sure) has(head int) bool {
	return head < 0 || s&(1<<head) != 0
}

// hasKeys asks whether all fields that a table looks at are there.
func (s sure) hasKeys(keys []api.Ref) bool {
	for _, key := range keys {
		if !s.has(key.H) {
			return false
		}
	}
	return true
}

// hasTree asks whether all fields that an expression names are there.
func (s sure) hasTree(e []api.Push) bool {
	for _, step := range e {
		if step.Op == api.PRef && !s.has(step.R.H) {
			return false
		}
	}
	return true
}
