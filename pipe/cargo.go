package pipe

import (
	"shuntyard/api"
)

// cargo is what a packet carries on its way: the numbers of headers and of what is beside them.
type cargo struct {
	heads [][]uint64 // of a header that is not there, all are 0
	there []bool     // by a header's number
	meta  []uint64
	port  []uint64 // by which it came in
}

// cargoOf tells the cargo of a packet of which nothing was taken yet.
func cargoOf(p api.Plan, port int) cargo {
	c := cargo{
		there: make([]bool, len(p.Heads)),
		meta:  make([]uint64, len(p.Meta)),
		port:  []uint64{uint64(port)},
	}
	for _, h := range p.Heads {
		c.heads = append(c.heads, make([]uint64, len(h.W)))
	}
	return c
}

// row tells the numbers of a header, or of a place beside headers.
func (c *cargo) row(place int) []uint64 {
	switch place {
	case api.InMeta:
		return c.meta
	case api.InPort:
		return c.port
	}
	return c.heads[place]
}

// field is a reader of all that hangs on no action.
func (c *cargo) field(r api.Ref) uint64 {
	return c.row(r.H)[r.F]
}

// load lets a header be there, with these numbers.
func (c *cargo) load(head int, l []uint64) {
	c.there[head] = true
	copy(c.heads[head], l)
}

// unload lets a header be there no more.
func (c *cargo) unload(head int) {
	c.there[head] = false
	clear(c.heads[head])
}
