package desk

import (
	"strconv"
	"strings"

	"shuntyard/api"
)

const (
	blank     = ' '
	mostSmall = 1000000
)

// parted tells the words of a line. No other white space than the blank parts them.
func parted(line string) []string {
	return strings.FieldsFunc(line, func(r rune) bool { return r == blank })
}

// reader takes the words of a line, from the front. Whether they were what was asked for is told at the end alone, so that it need not be asked word by word.
type reader struct {
	words []string
	wrong bool // a word was not there, or not what was asked for
}

// right asks whether the words were what was asked for, and none is left.
func (r *reader) right() bool {
	return !r.wrong && len(r.words) == 0
}

func (r *reader) word() string {
	if len(r.words) == 0 {
		r.wrong = true
		return ""
	}
	w := r.words[0]
	r.words = r.words[1:]
	return w
}

func (r *reader) bytes() []byte {
	b, ok := Bytes(r.word())
	if !ok {
		r.wrong = true
	}
	return b
}

// number takes a number in its one form alone: as it would be told.
func (r *reader) number() uint64 {
	w := r.word()
	n, err := strconv.ParseUint(w, 10, 64)
	if err != nil || strconv.FormatUint(n, 10) != w {
		r.wrong = true
	}
	return n
}

func (r *reader) small() int {
	n := r.number()
	if n > mostSmall {
		r.wrong = true
		return 0
	}
	return int(n)
}

// numbers takes so many; where there are not as many words, none is taken.
func (r *reader) numbers(many int) []uint64 {
	if many > len(r.words) {
		r.wrong = true
		return nil
	}
	var l []uint64
	for range many {
		l = append(l, r.number())
	}
	return l
}

func (r *reader) row() []uint64 {
	return r.numbers(r.small())
}

// rest takes numbers to the end of the line.
func (r *reader) rest() []uint64 {
	return r.numbers(len(r.words))
}

// step takes what a line asks a Twin for.
func (r *reader) step() (s api.Step) {
	s.Kind = kindOf(r.word())
	switch s.Kind {
	case api.SAdd, api.SChange, api.SDrop:
		s.Tab = r.small()
		s.E = r.entry()
	case api.SDefault:
		s.Tab = r.small()
		s.E.Act = r.small()
		s.E.Args = r.rest()
	case api.SRead:
		s.Tab = r.small()
	case api.SSend:
		s.Port = r.small()
		s.B = r.bytes()
	default:
		r.wrong = true
	}
	return s
}

func (r *reader) entry() (e api.Entry) {
	e.Keys = r.row()
	e.Masks = r.row()
	e.Len = r.small()
	e.Prio = r.small()
	e.Act = r.small()
	e.Args = r.rest()
	return e
}

// kindOf tells the kind of step that a line begins with; 0: none.
func kindOf(word string) int {
	switch word {
	case "add":
		return api.SAdd
	case "change":
		return api.SChange
	case "drop":
		return api.SDrop
	case "default":
		return api.SDefault
	case "read":
		return api.SRead
	case "send":
		return api.SSend
	}
	return 0
}
