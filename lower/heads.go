package lower

import (
	"shuntyard/api"
	"shuntyard/pack"
)

const (
	byteBits = 8
	wordBits = 16
	ones     = 1<<wordBits - 1
)

// part is the field of a header that it embeds, whose bits stand there from one place to another.
type part struct {
	api.Ref
	from, to int
}

// long tells how many bits it has.
func (x part) long() uint64 {
	return uint64(x.to - x.from)
}

// span tells which units (of so many bits each) of the header it stands in, and how many bits of the last one stand behind it.
func (x part) span(unit int) (first, many int, behind uint64) {
	first = x.from / unit
	end := (x.to + unit - 1) / unit
	return first, end - first, uint64(end*unit - x.to)
}

// each goes over the parts of a header, from the front.
func (m *maker) each(head int, do func(x part)) {
	at := 0
	for f, w := range m.Heads[head].W {
		do(part{api.Ref{H: head, F: f}, at, at + w})
		at += w
	}
}

// take puts what reads a header behind what was taken; the packet goes nowhere, if it has not all of its bytes.
func (m *maker) take(head int) {
	size, _ := pack.Size(m.Heads[head]) // of a right plan it has no fault
	m.Put(api.Ins{Op: api.IRoom, R: place, N: uint64(size), To: m.nowhere})
	m.each(head, func(x part) {
		first, many, behind := x.span(byteBits)
		m.Put(api.Ins{Op: api.ILoad, R: value, S: place, K: many, N: uint64(first)})
		m.turn(value, api.PShr, behind)
		m.keep(x.Ref)
	})
	m.turn(place, api.PAdd, uint64(size))
	m.fill(1, m.there[head])
}

// write puts what lets the bytes of a header go out: those that are whole by then with each field. Bits that went out already stay in total, above all that goes out later on.
func (m *maker) write(head int) {
	m.Put(number(total, 0))
	m.each(head, func(x part) {
		m.read(value, x.Ref)
		m.turn(total, api.PShl, x.long())
		m.Put(binary(total, value, api.POr))
		whole := x.to/byteBits - x.from/byteBits
		if whole == 0 {
			return
		}
		m.Put(api.Ins{Op: api.IMove, R: value, S: total})
		m.turn(value, api.PShr, uint64(x.to%byteBits))
		m.Put(api.Ins{Op: api.IPut, R: value, K: whole})
	})
}

// sum puts what lets value be the sum of a header, without the field into which it goes. Words may be added in any order, and in parts: so each field adds what it has of each word.
func (m *maker) sum(head int, into api.Ref) {
	m.Put(number(total, 0))
	m.each(head, func(x part) {
		if x.Ref == into {
			return
		}
		_, many, behind := x.span(wordBits)
		m.read(value, x.Ref)
		m.turn(value, api.PShl, behind)
		for range many {
			m.Put(api.Ins{Op: api.IOnes, R: total, S: value})
			m.turn(value, api.PShr, wordBits)
		}
	})
	m.Put(api.Ins{Op: api.IMove, R: value, S: total})
	m.turn(value, api.PXor, ones)
}
