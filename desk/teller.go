package desk

import (
	"slices"
	"strconv"
	"strings"

	"shuntyard/api"
)

const newline = "\n"

// teller puts together what is told.
type teller struct {
	strings.Builder
}

// tell tells one thing: a word, and the words of whatever parts there are.
func (t *teller) tell(word string, parts ...[]string) {
	t.WriteString(word)
	for _, w := range slices.Concat(parts...) {
		t.WriteByte(blank)
		t.WriteString(w)
	}
	t.WriteString(newline)
}

// tellReply tells what was replied to a step of a kind.
func (t *teller) tellReply(kind int, r api.Reply) {
	switch {
	case r.Code != 0:
		t.tell("no", small(r.Code))
	case kind == api.SRead:
		t.tellTable(r.Entries, r.Default)
	case kind == api.SSend:
		t.tellResult(r.R)
	default:
		t.tell("ok")
	}
}

func (t *teller) tellTable(l []api.Entry, other api.Hit) {
	for _, e := range l {
		t.tell("entry", row(e.Keys), row(e.Masks), small(e.Len, e.Prio, e.Act), numbers(e.Args...))
	}
	t.tell("else", small(other.Act), numbers(other.Args...))
}

func (t *teller) tellResult(r api.Result) {
	if r.Port < 0 {
		t.tell("drop")
		return
	}
	t.tell("out", small(r.Port), []string{Hex(r.Bytes)})
}

// small tells the words of numbers that are int.
func small(l ...int) []string {
	var words []string
	for _, n := range l {
		words = append(words, strconv.Itoa(n))
	}
	return words
}

// numbers tells the words of numbers of 64 bits.
func numbers(l ...uint64) []string {
	var words []string
	for _, n := range l {
		words = append(words, strconv.FormatUint(n, 10))
	}
	return words
}

// row tells how many numbers there are, and they.
func row(l []uint64) []string {
	return append(small(len(l)), numbers(l...)...)
}
