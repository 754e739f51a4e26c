// Package bits reads and writes numbers of 1 to 64 bits in bytes, the highest bit first: see doc/01-bits.md.
package bits

import (
	"slices"

	"shuntyard/api"
)

const (
	maxWidth = 64
	byteBits = 8
)

// Mask tells w ones at the low end; 0, if w is not from 1 to 64.
func Mask(w int) uint64 {
	if !isWidth(w) {
		return 0
	}
	return ^uint64(0) >> (maxWidth - w)
}

// Get tells the number of w bits of b from the bit at on.
func Get(b []byte, at, w int) (uint64, api.Fault) {
	if code := wrong(b, at, w); code != 0 {
		return 0, api.Fault{Code: code, At: -1}
	}
	return read(b, at, w), api.Fault{}
}

// Put tells bytes like b, in which the w bits from the bit at on are the low w bits of v.
func Put(b []byte, at, w int, v uint64) ([]byte, api.Fault) {
	if code := wrong(b, at, w); code != 0 {
		return nil, api.Fault{Code: code, At: -1}
	}
	out := slices.Clone(b)
	write(out, at, w, v)
	return out, api.Fault{}
}

// Join tells the low bits of the numbers v, as many as the widths w say, one behind the other in as few bytes as hold them.
func Join(v []uint64, w []int) ([]byte, api.Fault) {
	if len(v) != len(w) {
		return nil, api.Fault{Code: api.ErrMany, At: -1}
	}
	total := 0
	for i, width := range w {
		if !isWidth(width) {
			return nil, api.Fault{Code: api.ErrWidth, At: i}
		}
		total += width
	}
	out := make([]byte, (total+byteBits-1)/byteBits)
	at := 0
	for i, width := range w {
		write(out, at, width, v[i])
		at += width
	}
	return out, api.Fault{}
}

// Part tells numbers of the widths w, one behind the other from the bit at of b on.
func Part(b []byte, at int, w []int) ([]uint64, api.Fault) {
	var out []uint64
	for i, width := range w {
		v, fault := Get(b, at, width)
		if fault.Code != 0 {
			return nil, api.Fault{Code: fault.Code, At: i}
		}
		out = append(out, v)
		at += width
	}
	return out, api.Fault{}
}

func isWidth(w int) bool {
	return w >= 1 && w <= maxWidth
}

// wrong tells the code of what keeps w bits from being at the bit at of b; 0 is nothing.
func wrong(b []byte, at, w int) int {
	if !isWidth(w) {
		return api.ErrWidth
	}
	// at+w could wrap round; the difference can't, as w is a width by now.
	if at < 0 || at > len(b)*byteBits-w {
		return api.ErrRange
	}
	return 0
}

// read and write leave it to their callers that the bits are there.
func read(b []byte, at, w int) uint64 {
	v := uint64(0)
	for i := range w {
		v <<= 1
		if b[(at+i)/byteBits]&place(at+i) != 0 {
			v |= 1
		}
	}
	return v
}

func write(b []byte, at, w int, v uint64) {
	for i := range w {
		k := (at + i) / byteBits
		if v>>(w-1-i)&1 != 0 {
			b[k] |= place(at + i)
		} else {
			b[k] &^= place(at + i)
		}
	}
}

// place tells where the bit at stands in its byte.
func place(at int) byte {
	return 0x80 >> (at % byteBits)
}
