package lower

import (
	"shuntyard/api"
)

// layout tells which slots the things of a plan have.
type layout struct {
	fields [][]int // of each header, those of its fields; while it is not there, they are 0
	there  []int   // of each header: 1, if it is there, else 0
	meta   []int
	port   int   // by which the packet will go out
	keys   []int // for which a table is asked
	said   []int // the numbers that it says
	slots  int   // how many there are
}

func layoutOf(p api.Plan) layout {
	var l layout
	for _, h := range p.Heads {
		l.fields = append(l.fields, l.more(len(h.W)))
	}
	l.there = l.more(len(p.Heads))
	l.meta = l.more(len(p.Meta))
	l.port = l.more(1)[0]
	l.keys = l.more(api.MaxKeys)
	l.said = l.more(api.MaxParams)
	return l
}

// more tells so many slots more, one behind the other.
func (l *layout) more(many int) []int {
	out := make([]int, many)
	for i := range out {
		out[i] = l.slots + i
	}
	l.slots += many
	return out
}

// all tells all slots.
func (l *layout) all() []int {
	out := make([]int, l.slots)
	for i := range out {
		out[i] = i
	}
	return out
}

// slot tells that of a field. (Where a packet came in has none: the machine tells it.)
func (l *layout) slot(r api.Ref) int {
	switch r.H {
	case api.InMeta:
		return l.meta[r.F]
	case api.InArg:
		return l.said[r.F]
	}
	return l.fields[r.H][r.F]
}
