package desk_test

import (
	"fmt"
	"math/big"
	"math/rand"
	"regexp"
	"slices"
	"strings"
	"testing"

	"shuntyard/api"
	"shuntyard/codec"
	"shuntyard/desk"
	"shuntyard/pipe"
	"shuntyard/rig"
)

// The model reads lines by patterns and numbers of any size, counted from the line's front, and asks a Pipe's tables itself: it shares no reader, no words and no Twin with the package.

var (
	number = regexp.MustCompile(`^(0|[1-9][0-9]*)$`)
	hex    = regexp.MustCompile(`^(-|([0-9a-f][0-9a-f])+)$`)
)

// model is what a Desk is held against.
type model struct {
	pipe *pipe.Pipe
}

// bigs tells the numbers of words; false, if one is none.
func bigs(words []string) ([]*big.Int, bool) {
	var l []*big.Int
	for _, w := range words {
		n, _ := new(big.Int).SetString(w, 10)
		if !number.MatchString(w) || n.BitLen() > 64 {
			return nil, false
		}
		l = append(l, n)
	}
	return l, true
}

func small(n *big.Int) bool { return n.Cmp(big.NewInt(1000000)) <= 0 }

func plains(l []*big.Int) []uint64 {
	var out []uint64
	for _, n := range l {
		out = append(out, n.Uint64())
	}
	return out
}

// bytesOf tells those of a text that the pattern fits.
func bytesOf(s string) []byte {
	if s == "-" {
		return nil
	}
	var b []byte
	fmt.Sscanf(s, "%x", &b)
	return b
}

// entryOf tells what the numbers behind the table's say: where each of them stands is reckoned ahead.
func entryOf(l []*big.Int) (e api.Entry, ok bool) {
	if len(l) < 5 || !small(l[0]) || l[0].Int64() > int64(len(l)-5) {
		return e, false
	}
	masks := 1 + int(l[0].Int64())
	if !small(l[masks]) || l[masks].Int64() > int64(len(l)-masks-4) {
		return e, false
	}
	end := masks + 1 + int(l[masks].Int64())
	if !small(l[end]) || !small(l[end+1]) || !small(l[end+2]) {
		return e, false
	}
	e.Keys, e.Masks, e.Args = plains(l[1:masks]), plains(l[masks+1:end]), plains(l[end+3:])
	e.Len, e.Prio, e.Act = int(l[end].Int64()), int(l[end+1].Int64()), int(l[end+2].Int64())
	return e, true
}

// line tells what a line tells.
func (m *model) line(line string) string {
	words := slices.DeleteFunc(strings.Split(line, " "), func(w string) bool { return w == "" })
	if len(words) == 0 {
		return ""
	}
	last := words[len(words)-1]
	if words[0] == "plan" && len(words) == 2 && hex.MatchString(last) {
		return m.plan(bytesOf(last))
	}
	if words[0] == "send" && len(words) == 3 && hex.MatchString(last) && m.pipe != nil {
		if n, ok := bigs(words[1:2]); ok && small(n[0]) {
			return m.send(bytesOf(last), int(n[0].Int64()))
		}
		return "what\n"
	}
	l, ok := bigs(words[1:])
	if !ok || m.pipe == nil || len(l) == 0 || !small(l[0]) {
		return "what\n"
	}
	return m.ask(words[0], l)
}

func (m *model) plan(b []byte) string {
	p, f := codec.Decode(b)
	m.pipe = nil
	if f == right {
		m.pipe, f = pipe.New(p)
	}
	if f != right {
		m.pipe = nil
		return fmt.Sprintln("no", f.Code, f.At)
	}
	return fmt.Sprintln("yes", len(p.Tabs))
}

func (m *model) send(b []byte, port int) string {
	r, f := m.pipe.Run(b, port)
	switch {
	case f != right:
		return fmt.Sprintln("no", f.Code)
	case r.Port == -1:
		return "drop\n"
	case len(r.Bytes) == 0:
		return fmt.Sprintln("out", r.Port, "-")
	}
	return fmt.Sprintf("out %d %x\n", r.Port, r.Bytes)
}

// ask tells what a line tells that asks a table: its name, and numbers, the table's first.
func (m *model) ask(name string, l []*big.Int) string {
	e, isEntry := entryOf(l[1:])
	isDefault := len(l) > 1 && small(l[1])
	switch {
	case name == "read" && len(l) == 1, name == "default" && isDefault, isEntry && slices.Contains([]string{"add", "change", "drop"}, name):
	default:
		return "what\n"
	}
	tab := int(l[0].Int64())
	if tab >= len(m.pipe.Tabs) {
		return "no 1\n"
	}
	s, code := m.pipe.Tabs[tab], 0
	switch name {
	case "read":
		out := ""
		for _, e := range s.All() {
			out += fmt.Sprintf("entry %s %s %d %d %d%s\n", counted(e.Keys), counted(e.Masks), e.Len, e.Prio, e.Act, spaced(e.Args))
		}
		return out + fmt.Sprintf("else %d%s\n", s.Says().Act, spaced(s.Says().Args))
	case "add":
		code = s.Add(e)
	case "change":
		code = s.Change(e)
	case "drop":
		code = s.Drop(e)
	case "default":
		code = s.Default(api.Hit{Act: int(l[1].Int64()), Args: plains(l[2:])})
	}
	if code != 0 {
		return fmt.Sprintln("no", code)
	}
	return "ok\n"
}

func spaced(l []uint64) string {
	out := ""
	for _, n := range l {
		out += fmt.Sprintf(" %d", n)
	}
	return out
}

func counted(l []uint64) string { return fmt.Sprintf("%d%s", len(l), spaced(l)) }

// maker makes lines at random, most of which ask for what can be done.
type maker struct {
	*rand.Rand
	plans []string // lines
	named []string // words of entries that were named ahead
}

func (m *maker) one(l ...int) int { return l[m.Intn(len(l))] }

func (m *maker) word(l ...string) string { return l[m.Intn(len(l))] }

// plan tells a right one, whose tables are of whatever kind, and have other keys, other room and other actions.
func (m *maker) plan() api.Plan {
	p := yard()
	for i := range p.Tabs {
		t := &p.Tabs[i]
		t.Kind, t.Cap, t.Keys = m.one(api.KExact, api.KPrefix, api.KTernary), m.one(0, 1, 2, 4, api.MaxCap), t.Keys[:1]
		if t.Kind != api.KPrefix {
			t.Keys = append(t.Keys, make([]api.Ref, m.one(0, 0, 1, 2))...)
		}
		for len(t.Acts) < api.MaxSays && m.Intn(2) == 0 {
			t.Acts = append(t.Acts, m.one(more, gone, leads, still))
		}
	}
	p.Tabs = p.Tabs[:m.one(0, 1, 2, 3, 3, 3)]
	p.Nodes = p.Nodes[:len(p.Tabs)]
	return p
}

// entry tells the words of one; many were named ahead, so that they meet.
func (m *maker) entry() string {
	if len(m.named) > 0 && m.Intn(3) > 0 {
		return m.named[m.Intn(len(m.named))]
	}
	m.named = append(m.named, m.newEntry())
	if len(m.named) > 12 {
		m.named = m.named[1:]
	}
	return m.named[len(m.named)-1]
}

func (m *maker) newEntry() string {
	key := func() uint64 { return uint64(m.one(0, 1, 2, 3, 4, 128, 192, 255)) }
	var keys, masks, args []uint64
	for range m.one(1, 1, 1, 1, 1, 2, 2, 3, 0, 4) {
		keys = append(keys, key())
	}
	long, prio := 0, 0
	switch m.Intn(3) {
	case 0:
		for i := range keys {
			masks = append(masks, uint64(m.one(1, 3, 255)))
			keys[i] &= masks[i]
		}
		prio = m.one(0, 0, 0, 1, 1000, 1001)
	case 1:
		long = m.one(0, 1, 2, 8, 8, 9)
		for i := range keys {
			keys[i] &= ^uint64(0) << max(0, 8-long)
		}
	}
	act := m.one(0, 1, 1, 2, 3, 3, 4, 5)
	for range []int{1, 0, 2, 0, 0, 1}[act] {
		args = append(args, key())
	}
	return fmt.Sprintf("%s %s %d %d %d%s", counted(keys), counted(masks), long, prio, act, spaced(args))
}

func (m *maker) line() string {
	tab := m.one(0, 0, 1, 1, 2, 3)
	if m.Intn(80) == 0 {
		return m.plans[m.Intn(len(m.plans))]
	}
	switch m.Intn(20) {
	case 1, 2:
		return fmt.Sprintf("read %d", tab)
	case 3:
		return fmt.Sprintf("default %d %s", tab, m.word("0 7", "1", "2 65535 9", "3", "4", "0", "1 1", "5"))
	case 4, 5:
		return fmt.Sprintf("change %d %s", tab, m.entry())
	case 6, 7:
		return fmt.Sprintf("drop %d %s", tab, m.entry())
	case 8, 9, 10, 11:
		b := make([]byte, m.one(0, 1, 1, 2, 5, 600, 601))
		for i := range b {
			b[i] = byte(m.one(0, 1, 2, 3, 4, 128, 192, 255))
		}
		return fmt.Sprintf("send %d %s", m.one(0, 3, 65535, 65536), desk.Hex(b))
	}
	return fmt.Sprintf("add %d %s", tab, m.entry())
}

// upset tells a line of which something is otherwise: a word more, or less, or another one.
func (m *maker) upset(line string) string {
	words := strings.Split(line, " ")
	at := m.Intn(len(words))
	other := m.word("", "", "0", "1", "2", "3", "7", "00", "01", "-", "-1", "+1", "x", "0A", "0a", "\t", "\xff", "1000000", "1000001", "18446744073709551615", "18446744073709551616", "read", "add", "plan", "send")
	switch m.Intn(4) {
	case 0:
		words = slices.Insert(words, at, other)
	case 1:
		words = slices.Delete(words, at, at+1)
	case 2:
		words[at] = other
	case 3:
		return line[:m.Intn(len(line)+1)]
	}
	return strings.Join(words, " ")
}

func (m *maker) lines(many int) []string {
	l := make([]string, many)
	for i := range l {
		l[i] = m.line()
		if m.Intn(5) == 0 {
			l[i] = m.upset(l[i])
		}
	}
	return l
}

// someMaker tells a maker with lines of right plans and of wrong ones.
func someMaker(t *testing.T, r *rand.Rand) *maker {
	m := &maker{Rand: r}
	for range 3 {
		m.plans = append(m.plans, planLine(t, m.plan()))
	}
	wrong := []byte(m.plans[0])
	wrong[m.Intn(len(wrong))] = byte(m.one('0', '7', 'f', 'g'))
	m.plans = append(m.plans, m.plans[0], m.plans[1], string(wrong))
	return m
}

func TestLikeTheModel(t *testing.T) {
	r := rand.New(rand.NewSource(20))
	told := map[string]int{}
	for range 600 {
		m := someMaker(t, r)
		d, x := desk.New(), &model{}
		for range 1 + m.Intn(5) {
			lines := m.lines(m.one(0, 1, 10, 100, api.MaxActsDo))
			if len(lines) > 0 && m.Intn(4) > 0 {
				lines[0] = m.plans[0]
			}
			var want strings.Builder
			for _, l := range lines {
				want.WriteString(x.line(l))
			}
			got, f := d.Do(lines)
			if f != right {
				t.Fatalf("%v of %.60q", f, lines)
			}
			if wantText(t, lines, got, want.String()); t.Failed() {
				return
			}
			count(told, got)
		}
	}
	for _, s := range []string{"ok", "what", "drop", "out", "yes", "entry", "else", "no 1", "no 2", "no 4", "no 5", "no 6", "no 7", "no 8", "no 9", "no 10", "no 14", "no 19"} {
		if told[s] < 20 {
			t.Errorf("%q was told %d times: too few", s, told[s])
		}
	}
}

// count counts what was told: by its first word, or its code.
func count(told map[string]int, text string) {
	for _, l := range strings.Split(text, "\n") {
		words := strings.Split(l, " ")
		if words[0] == "no" {
			words[0] += " " + words[1]
		}
		told[words[0]]++
	}
}

// Do is the same in whatever pieces lines come.
func TestLikeInPieces(t *testing.T) {
	r := rand.New(rand.NewSource(21))
	for range 150 {
		m := someMaker(t, r)
		lines := append([]string{m.plans[0]}, m.lines(m.Intn(api.MaxActsDo))...)
		want, f := desk.New().Do(lines)
		if f != right {
			t.Fatal(f)
		}
		d, got := desk.New(), ""
		for rest := lines; len(rest) > 0; {
			n := 1 + m.Intn(len(rest))
			text, f := d.Do(rest[:n])
			if f != right {
				t.Fatal(f)
			}
			got, rest = got+text, rest[n:]
		}
		if wantText(t, lines, got, want); t.Failed() {
			return
		}
	}
}

// What a Desk tells of packets is what a Rig that was asked for the same tells.
func TestLikeARig(t *testing.T) {
	r := rand.New(rand.NewSource(22))
	for range 100 {
		m := someMaker(t, r)
		b := bytesOf(strings.TrimPrefix(m.plans[0], "plan "))
		x, f := rig.Load(b)
		d := desk.New()
		if text, g := d.Do(m.plans[:1]); f != right || g != right || !strings.HasPrefix(text, "yes ") {
			t.Fatalf("%v, %q %v", f, text, g)
		}
		for range 200 {
			s := api.Step{Kind: m.one(api.SAdd, api.SAdd, api.SSend), Tab: m.Intn(4), Port: m.Intn(5), B: []byte{byte(m.Intn(8))}}
			words := m.entry()
			l, _ := bigs(strings.Split(words, " "))
			s.E, _ = entryOf(l)
			line := fmt.Sprintf("add %d %s", s.Tab, words)
			if s.Kind == api.SSend {
				line = fmt.Sprintf("send %d %x", s.Port, s.B)
			}
			got, _ := d.Do([]string{line})
			if want := ofReply(s, x.Do(s)); got != want {
				t.Fatalf("%q: %q, want %q", line, got, want)
			}
		}
	}
}

// ofReply tells a reply to SAdd or SSend as a line.
func ofReply(s api.Step, r api.Reply) string {
	switch {
	case r.Code != 0:
		return fmt.Sprintf("no %d\n", r.Code)
	case s.Kind == api.SAdd:
		return "ok\n"
	case r.R.Port < 0:
		return "drop\n"
	case len(r.R.Bytes) == 0:
		return fmt.Sprintf("out %d -\n", r.R.Port)
	}
	return fmt.Sprintf("out %d %x\n", r.R.Port, r.R.Bytes)
}
