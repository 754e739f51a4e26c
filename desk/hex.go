package desk

import (
	"strings"
)

const (
	digits   = "0123456789abcdef"
	noBytes  = "-" // what stands for bytes that there are none of
	halfByte = 4   // bits of a digit
	lowHalf  = 15
)

// Hex tells bytes as digits, two each.
func Hex(b []byte) string {
	if len(b) == 0 {
		return noBytes
	}
	var out []byte
	for _, x := range b {
		out = append(out, digits[x>>halfByte], digits[x&lowHalf])
	}
	return string(out)
}

// Bytes tells what Hex was told; false, if Hex tells no such text.
func Bytes(s string) ([]byte, bool) {
	if s == noBytes {
		return nil, true
	}
	if s == "" || len(s)%2 != 0 {
		return nil, false
	}
	out := make([]byte, len(s)/2)
	for i := range out {
		upper, lower := strings.IndexByte(digits, s[2*i]), strings.IndexByte(digits, s[2*i+1])
		if upper < 0 || lower < 0 {
			return nil, false
		}
		out[i] = byte(upper<<halfByte | lower)
	}
	return out, true
}
