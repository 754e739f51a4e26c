package word

import (
	"shuntyard/api"
)

// reader reads a program out of bytes, from their front on. It leaves it to its callers that they are there.
type reader struct{ in []byte }

func (r *reader) program() (p api.Program) {
	p.Slots = r.number(byteSize)
	p.Tabs = make([]api.Shape, r.number(byteSize))
	for i := range p.Tabs {
		p.Tabs[i] = r.table()
	}
	p.Code = make([]api.Ins, r.number(countSize))
	for i := range p.Code {
		p.Code[i] = r.instruction()
	}
	return p
}

func (r *reader) table() (t api.Shape) {
	t.Keys = r.number(byteSize)
	t.Acts = r.number(byteSize)
	t.Args = r.number(byteSize)
	return t
}

func (r *reader) instruction() (ins api.Ins) {
	ins.Op = r.number(byteSize)
	ins.R = r.number(byteSize)
	ins.S = r.number(byteSize)
	ins.K = r.number(byteSize)
	ins.To = r.number(toSize)
	ins.N = r.whole(wholeSize)
	return ins
}

func (r *reader) number(size int) int {
	return int(r.whole(size))
}

// whole tells a number without a sign, whose upper bytes stand first.
func (r *reader) whole(size int) uint64 {
	n := uint64(0)
	for _, x := range r.in[:size] {
		n = n<<8 | uint64(x)
	}
	r.in = r.in[size:]
	return n
}
