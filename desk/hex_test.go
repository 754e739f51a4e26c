package desk_test

import (
	"fmt"
	"math/rand"
	"slices"
	"strings"
	"testing"

	"shuntyard/desk"
)

func TestHex(t *testing.T) {
	for _, s := range []struct {
		b    []byte
		text string
	}{
		{nil, "-"},
		{[]byte{}, "-"},
		{[]byte{0}, "00"},
		{[]byte{0x0F}, "0f"},
		{[]byte{0xF0}, "f0"},
		{[]byte{10, 255}, "0aff"},
		{[]byte{0x12, 0x34, 0x56, 0x78, 0x9A, 0xBC, 0xDE, 0xF0}, "123456789abcdef0"},
		{[]byte{0, 0, 0}, "000000"},
	} {
		if got := desk.Hex(s.b); got != s.text {
			t.Errorf("%v: %q, want %q", s.b, got, s.text)
		}
		if got, ok := desk.Bytes(s.text); !ok || !slices.Equal(got, s.b) {
			t.Errorf("%q: %v %v, want %v", s.text, got, ok, s.b)
		}
	}
}

func TestHexThereAndBack(t *testing.T) {
	r := rand.New(rand.NewSource(1))
	for n := range 400 {
		b := make([]byte, n)
		for i := range b {
			b[i] = byte(i)
			if n > 256 {
				b[i] = byte(r.Intn(256))
			}
		}
		before := slices.Clone(b)
		text := desk.Hex(b)
		if want := fmt.Sprintf("%x", b); n > 0 && text != want {
			t.Errorf("%q, want %q", text, want)
		}
		got, ok := desk.Bytes(text)
		if !ok || !slices.Equal(got, before) || !slices.Equal(b, before) {
			t.Errorf("%q: %v %v, want %v", text, got, ok, before)
		}
	}
}

// Any two bytes are a text just where Hex tells it.
func TestBytesOfTwo(t *testing.T) {
	texts := map[string]int{}
	for n := range 256 {
		texts[desk.Hex([]byte{byte(n)})] = n
	}
	if len(texts) != 256 {
		t.Fatalf("%d texts of 256 bytes", len(texts))
	}
	for n := range 0x10000 {
		s := string([]byte{byte(n >> 8), byte(n)})
		want, is := texts[s]
		got, ok := desk.Bytes(s)
		if ok != is || is && !slices.Equal(got, []byte{byte(want)}) || !is && len(got) != 0 {
			t.Errorf("%q: %v %v, want %v %v", s, got, ok, want, is)
		}
	}
}

func TestWrongTexts(t *testing.T) {
	long := strings.Repeat("ab", 5000)
	for _, s := range []string{
		"", "0", "a", "000", "--", "-0", "0-", "-00", "00-", "---", "0A", "A0", "AB", "0g", "g0", "0x00", " ", "00 ", " 00", "0 0 ", "00 00", "00\n", "+0", "0/", "0:", "0`", "0G", "\x000", "é", "０", "0\xff", "\xff\xff",
		long + "a", long + "g0", long + "0g", "0g" + long, "G0" + long, long + "-",
	} {
		if got, ok := desk.Bytes(s); ok || len(got) != 0 {
			t.Errorf("%.20q: %v %v, want false", s, got, ok)
		}
	}
}

// What lies behind the length of bytes does not count, and what was told can be changed.
func TestHexMemory(t *testing.T) {
	b := []byte{1, 2, 3, 4}
	if got := desk.Hex(b[:2]); got != "0102" || !slices.Equal(b, []byte{1, 2, 3, 4}) {
		t.Errorf("%q, of %v", got, b)
	}
	if got := desk.Hex(b[:0]); got != "-" {
		t.Errorf("%q", got)
	}
	one, _ := desk.Bytes("0102")
	clear(one)
	if again, ok := desk.Bytes("0102"); !ok || !slices.Equal(again, []byte{1, 2}) {
		t.Errorf("%v %v", again, ok)
	}
}
