package word

import (
	"shuntyard/api"
)

// writer puts the bytes of a right program together, whose numbers all have room in the bytes that they get.
type writer struct{ out []byte }

func (w *writer) program(p api.Program) {
	w.number(p.Slots, byteSize)
	w.number(len(p.Tabs), byteSize)
	for _, t := range p.Tabs {
		w.table(t)
	}
	w.number(len(p.Code), countSize)
	for _, ins := range p.Code {
		w.instruction(ins)
	}
}

func (w *writer) table(t api.Shape) {
	w.number(t.Keys, byteSize)
	w.number(t.Acts, byteSize)
	w.number(t.Args, byteSize)
}

func (w *writer) instruction(ins api.Ins) {
	w.number(ins.Op, byteSize)
	w.number(ins.R, byteSize)
	w.number(ins.S, byteSize)
	w.number(ins.K, byteSize)
	w.number(ins.To, toSize)
	w.whole(ins.N, wholeSize)
}

func (w *writer) number(n, size int) {
	w.whole(uint64(n), size)
}

// whole writes the upper bytes of a number first.
func (w *writer) whole(n uint64, size int) {
	for i := range size {
		w.out = append(w.out, byte(n>>(8*(size-1-i))))
	}
}
