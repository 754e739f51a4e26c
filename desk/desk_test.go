package desk_test

import (
	"fmt"
	"slices"
	"strings"
	"testing"

	"shuntyard/api"
	"shuntyard/codec"
	"shuntyard/desk"
)

func fault(code, at int) api.Fault { return api.Fault{Code: code, At: at} }

var right = fault(0, 0)

// The yard's actions.
const (
	more  = 0 // the first byte is so much more
	gone  = 1 // nowhere
	leads = 2 // by that port, with a second header of that number
	still = 3 // nothing
	bare  = 4 // out without the first byte
)

// yard tells a plan of two headers of a byte, the first of which is taken, and of three tables, one of each kind, that are asked one behind the other: 0 by the first byte, 1 by its beginning, 2 by masks of it and the port that the packet came in by.
func yard() api.Plan {
	first, inPort := api.Ref{}, api.Ref{H: api.InPort}
	said := func(n int) api.Push { return api.Push{Op: api.PRef, R: api.Ref{H: api.InArg, F: n}} }
	return api.Plan{
		Heads:  []api.Header{{W: []int{8}}, {W: []int{8}}},
		States: []api.State{{Head: 0, Else: api.Accept}},
		Acts: []api.Action{
			more:  {W: []int{8}, Ops: []api.Op{{Kind: api.OSet, R: first, E: []api.Push{{Op: api.PRef, R: first}, said(0), {Op: api.PAdd}}}}},
			gone:  {Ops: []api.Op{{Kind: api.ODrop}}},
			leads: {W: []int{16, 8}, Ops: []api.Op{{Kind: api.OPort, E: []api.Push{said(0)}}, {Kind: api.OOn, Head: 1}, {Kind: api.OSet, R: api.Ref{H: 1}, E: []api.Push{said(1)}}}},
			still: {},
			bare:  {Ops: []api.Op{{Kind: api.OOff, Head: 0}}},
		},
		Tabs: []api.Table{
			{Kind: api.KExact, Keys: []api.Ref{first}, Acts: []int{more, gone}, Cap: 2, Def: more, Args: []uint64{1}},
			{Kind: api.KPrefix, Keys: []api.Ref{first}, Acts: []int{leads, gone, still}, Cap: 3, Def: still},
			{Kind: api.KTernary, Keys: []api.Ref{first, inPort}, Acts: []int{still, more, leads, bare}, Cap: 4, Def: still},
		},
		Nodes: []api.Node{
			{Kind: api.NTable, N: 0, Yes: 1},
			{Kind: api.NTable, N: 1, Yes: 2},
			{Kind: api.NTable, N: 2, Yes: 3},
		},
		Out: []int{0, 1},
	}
}

// empty tells a plan that lets packets by as they came.
func empty() api.Plan {
	return api.Plan{States: []api.State{{Head: -1, Else: api.Accept}}}
}

// planLine tells the line that makes a right plan a Twin.
func planLine(t *testing.T, p api.Plan) string {
	t.Helper()
	b, f := codec.Encode(p)
	if f != right {
		t.Fatalf("%v of %+v", f, p)
	}
	return "plan " + desk.Hex(b)
}

// tester is a Desk that is asked.
type tester struct {
	testing.TB
	*desk.Desk
}

// desked tells a Desk whose Twin is a plan's.
func desked(t *testing.T, p api.Plan) tester {
	t.Helper()
	d := tester{t, desk.New()}
	d.want(fmt.Sprintf("yes %d", len(p.Tabs)), planLine(t, p))
	return d
}

// want asks for what some lines tell, a newline behind each thing.
func (d tester) want(told string, lines ...string) {
	d.Helper()
	if told != "" {
		told += "\n"
	}
	got, f := d.Do(lines)
	if f != right {
		d.Errorf("%.60q: %v, want none", lines, f)
	}
	wantText(d, lines, got, told)
}

// wantText asks whether a text is the one that is wanted, and tells the first thing in which it is not.
func wantText(t testing.TB, lines []string, got, want string) {
	t.Helper()
	if got == want {
		return
	}
	a, b := strings.SplitAfter(got, "\n"), strings.SplitAfter(want, "\n")
	at := 0
	for at < len(a) && at < len(b) && a[at] == b[at] {
		at++
	}
	t.Errorf("%.60q: the thing %d of %d is %.60q, want %.60q of %d", lines, at, len(a), append(a, "")[at], append(b, "")[at], len(b))
}

// wantEach asks for what lines tell: line, told, line, told.
func (d tester) wantEach(l ...string) {
	d.Helper()
	for pair := range slices.Chunk(l, 2) {
		d.want(pair[1], pair[0])
	}
}

func (d tester) wantFault(want api.Fault, lines ...string) {
	d.Helper()
	if got, f := d.Do(lines); got != "" || f != want {
		d.Errorf("%d lines: %q %v, want %v", len(lines), got, f, want)
	}
}

// script tells lines of each kind, done and refused, of a new yard, each with what it tells behind it.
func script() []string {
	return []string{
		"read 0", "else 0 1",
		"read 1", "else 3",
		"read 2", "else 3",
		"send 3 0509", "out 0 0609",
		"send 3 -", "drop",
		"add 0 1 5 0 0 0 1", "ok",
		"add 0 1 5 0 0 0 0 7", "no 7",
		"send 3 0509", "drop",
		"send 3 0409", "out 0 0509",
		"change 0 1 5 0 0 0 0 250", "ok",
		"change 0 1 6 0 0 0 1", "no 9",
		"send 3 0509", "out 0 ff09",
		"default 0 0 2", "ok",
		"default 0 3", "no 5",
		"default 0 0", "no 2",
		"default 0 0 256", "no 6",
		"read 0", "entry 1 5 0 0 0 0 250\nelse 0 2",
		"add 0 1 4 0 0 0 1", "ok",
		"add 0 1 3 0 0 0 1", "no 10",
		"read 0", "entry 1 4 0 0 0 1\nentry 1 5 0 0 0 0 250\nelse 0 2",
		"drop 0 1 4 0 0 0 0", "ok",
		"drop 0 1 4 0 0 0 0", "no 9",
		"add 1 1 128 0 1 0 2 65535 7", "ok",
		"add 1 1 0 0 0 0 3", "ok",
		"read 1", "entry 1 0 0 0 0 3\nentry 1 128 0 1 0 2 65535 7\nelse 3",
		"send 3 8009", "out 65535 820709",
		"add 2 2 0 3 2 0 65535 0 9 4", "ok",
		"add 2 2 1 0 2 1 0 0 9 3", "no 8",
		"add 2 2 5 0 2 255 0 0 8 0 1", "ok",
		"read 2", "entry 2 5 0 2 255 0 0 8 0 1\nentry 2 0 3 2 0 65535 0 9 4\nelse 3",
		"send 3 03", "out 0 06",
		"send 3 04", "out 0 -",
		"send 3 0401", "out 0 01",
		"send 2 04", "out 0 06",
		"send 65535 05", "out 65535 ff07",
		"send 65535 06", "out 0 08",
		"send 65536 05", "no 1",
		"send 1000000 05", "no 1",
		"send 0 " + strings.Repeat("07", api.MaxPacket), "out 0 09" + strings.Repeat("07", api.MaxPacket-1),
		"send 0 " + strings.Repeat("07", api.MaxPacket+1), "no 14",
		"send 65536 " + strings.Repeat("07", api.MaxPacket+1), "no 14",
		"read 3", "no 1",
		"read 1000000", "no 1",
		"add 3 1 5 0 0 0 1", "no 1",
		"change 3 1 5 0 0 0 1", "no 1",
		"drop 3 1 5 0 0 0 1", "no 1",
		"default 3 1", "no 1",
		"add 0 0 0 0 0 1", "no 2",
		"add 0 1 5 1 255 0 0 1", "no 4",
		"add 0 1 5 0 8 0 1", "no 4",
		"add 0 1 5 0 0 1 1", "no 4",
		"add 0 1 256 0 0 0 1", "no 6",
		"add 0 1 9 0 0 0 2 1 1", "no 5",
	}
}

// halves tells the lines of a script, and what they tell.
func halves(l []string) (lines, told []string) {
	for pair := range slices.Chunk(l, 2) {
		lines, told = append(lines, pair[0]), append(told, pair[1])
	}
	return lines, told
}

func TestScript(t *testing.T) {
	desked(t, yard()).wantEach(script()...)
	lines, told := halves(script())
	desked(t, yard()).want(strings.Join(told, "\n"), lines...)
}

// What two Do tell one behind the other one Do of both tells.
func TestPieces(t *testing.T) {
	lines, told := halves(script())
	for piece := range len(lines) {
		d := desked(t, yard())
		d.want("")
		d.want(strings.Join(told[:piece], "\n"), lines[:piece]...)
		d.want(strings.Join(told[piece:], "\n"), lines[piece:]...)
	}
	lines, told = append(lines, planLine(t, yard())), append(told, "yes 3")
	d := desked(t, yard())
	d.want(strings.Join(append(told, told...), "\n"), append(lines, lines...)...)
}

// Each kind of table is read in its order, with all that its entries have.
func TestRead(t *testing.T) {
	p := yard()
	p.Tabs[2].Keys = append(p.Tabs[2].Keys, api.Ref{H: api.InPort})
	d := desked(t, p)
	d.want("ok\nok\nok\nok\nok\nok",
		"add 1 1 192 0 2 0 1",
		"add 1 1 128 0 8 0 2 0 0",
		"add 1 1 128 0 1 0 2 9 255",
		"add 2 3 3 2 1 3 3 2 65535 0 1000 2 1 2",
		"add 2 3 1 2 1 3 255 65535 65535 0 0 0 77",
		"default 2 2 65535 0",
	)
	d.wantEach(
		"read 1", "entry 1 128 0 1 0 2 9 255\nentry 1 128 0 8 0 2 0 0\nentry 1 192 0 2 0 1\nelse 3",
		"read 2", "entry 3 1 2 1 3 255 65535 65535 0 0 0 77\nentry 3 3 2 1 3 3 2 65535 0 1000 2 1 2\nelse 2 65535 0",
	)
}

// Numbers of 64 bits are read and told whole, as far as a table may have them.
func TestGreatNumbers(t *testing.T) {
	p := yard()
	p.Meta = []int{api.MaxWidth}
	p.Acts[gone].W = []int{api.MaxWidth}
	p.Tabs[0].Keys[0] = api.Ref{H: api.InMeta}
	d := desked(t, p)
	d.wantEach(
		"add 0 1 281474976710655 0 0 0 1 281474976710655", "ok",
		"default 0 1 281474976710654", "ok",
		"read 0", "entry 1 281474976710655 0 0 0 1 281474976710655\nelse 1 281474976710654",
		"add 0 1 281474976710656 0 0 0 1 1", "no 6",
		"add 0 1 1 0 0 0 1 281474976710656", "no 6",
		"add 0 1 18446744073709551615 0 0 0 1 1", "no 6",
		"add 0 1 18446744073709551616 0 0 0 1 1", "what",
		"default 0 1 18446744073709551615", "no 6",
		"default 0 1 18446744073709551616", "what",
		"default 0 1 99999999999999999999", "what",
		"default 0 1 100000000000000000000000000000000000000000000", "what",
		"add 2 2 0 0 2 18446744073709551615 0 0 0 3", "no 6",
		"add 2 2 0 0 2 18446744073709551616 0 0 0 3", "what",
	)
}

// A small number is at most 1000000, wherever one is asked for.
func TestSmallNumbers(t *testing.T) {
	d := desked(t, yard())
	for _, s := range []struct{ form, most string }{
		{"read %s", "no 1"},
		{"send %s 05", "no 1"},
		{"default %s 1", "no 1"},
		{"default 0 %s", "no 5"},
		{"add %s 1 5 0 0 0 1", "no 1"},
		{"change %s 1 5 0 0 0 1", "no 1"},
		{"drop %s 1 5 0 0 0 1", "no 1"},
		{"add 0 %s 5 0 0 0 1", "what"},
		{"add 0 1 5 %s 0 0 1", "what"},
		{"add 0 1 5 0 %s 0 1", "no 4"},
		{"add 1 1 5 0 %s 0 1", "no 6"},
		{"add 0 1 5 0 0 %s 1", "no 4"},
		{"add 2 2 5 0 2 255 0 0 %s 3", "no 6"},
		{"add 0 1 5 0 0 0 %s", "no 5"},
	} {
		d.want(s.most, fmt.Sprintf(s.form, "1000000"))
		for _, n := range []string{"1000001", "4294967296", "18446744073709551615", "18446744073709551616", "-1", "-0", "+1", "01", "00", "1.", "1e1", "0x1", "1_0", "x", "-", "\x00"} {
			d.want("what", fmt.Sprintf(s.form, n))
		}
	}
	d.want("else 0 1", "read 0")
}

// Each word of a line counts: of fewer, or more, or another one there is no such line, and nothing is done.
func TestWhat(t *testing.T) {
	d := desked(t, yard())
	for _, l := range []string{
		"x", "Read 0", "READ 0", "reads 0", "rea 0", "0", "-", "ok", "what", "entry 1 5 0 0 0 1",
		"read", "read 0 0", "read x", "read -", "read 0\t", "\tread 0", "read\t0", "read 0\r", "read\v0", "read\u00a00", "read 0\x00", "\xff", "read \xff", "read \xf0\x9f",
		"send", "send 3", "send 3 05 09", "send 05", "send 3 0", "send 3 050", "send 3 0A", "send 3 x5", "send 3 5x", "send 3 --", "send 3 -05", "send - 05", "send 3 05-", "send 3 0x05",
		"default", "default 0", "default 0 x", "default 0 0 x", "default 0 0 1 x", "default 0 0 -1", "default 0 0 01",
		"add", "add 0", "add 0 1", "add 0 1 5", "add 0 1 5 0", "add 0 1 5 0 0", "add 0 1 5 0 0 0", "add 0 2 5 0 0 0 1", "add 0 1 5 7 0 0 1", "add 0 1 5 3 0 0 0 1",
		"add 0 1 x 0 0 0 1", "add 0 1 5 0 0 0 1 x", "add 0 1 -5 0 0 0 1", "add 0 1 05 0 0 0 1", "add 0 1 5 0 0 0 0 08", "add x 1 5 0 0 0 1",
		"add 0 1 5 0 0 0 -", "add 0 1 5 - 0 0 1", "add 0 - 5 0 0 0 1", "add0 1 5 0 0 0 1", "add,0 1 5 0 0 0 1", "add 0 7 5 0 0 0 1", "add 0 1000000", "add 0 1000000 5 0 0 0 1",
		"change 0 1 5 0 0 0", "change 0 2 5 0 0 0 1", "drop 0 1 5 0 0 0", "drop 0 1 5", "drop 0 1 5 0 0 0 0 x", "drop",
		"plan", "plan 0", "plan zz", "plan 00 00", "plan - -", "plan 0A", "plan --", "plan 005", "plan\t00", "plan \t00", "Plan 00",
	} {
		d.want("what", l)
		d.want("what\nwhat", l, l)
	}
	d.wantEach("read 0", "else 0 1", "send 3 05", "out 0 06")
}

// Any number of blanks parts words; nothing else does.
func TestBlanks(t *testing.T) {
	d := desked(t, yard())
	d.wantEach(
		"", "",
		" ", "",
		strings.Repeat(" ", 3*api.MaxBytes), "",
		"\t", "what",
		"  add   0 1 5   0 0 0   1 ", "ok",
		" read 0", "entry 1 5 0 0 0 1\nelse 0 1",
		"read 0 ", "entry 1 5 0 0 0 1\nelse 0 1",
		"send  3  0609  ", "out 0 0709",
		"  plan   -  ", "no 3 0",
		"", "",
		"   ", "",
	)
	d.want("what\nno 3 0\nwhat", "", "x", " ", "", "plan -", "", "read 0", "")
}

func TestWithoutTwin(t *testing.T) {
	lines, told := halves(script())
	for i := range told {
		told[i] = "what"
	}
	d := tester{t, desk.New()}
	d.want(strings.Join(told, "\n"), lines...)
	d.want("what\nwhat\nwhat", "x", "read", "plan")
	d.want("what\nyes 3\nout 0 06\nno 3 1\nwhat", "send 3 05", planLine(t, yard()), "send 3 05", "plan 00", "send 3 05")
}

// A plan that is refused leaves no Twin; a line that is none leaves the one that there is.
func TestPlan(t *testing.T) {
	yards := planLine(t, yard())
	b, _ := codec.Encode(yard())
	change := func(do func(p *api.Plan)) string {
		p := yard()
		do(&p)
		return planLine(t, p)
	}
	upset := func(at int) string {
		l := slices.Clone(b)
		l[at]++
		return "plan " + desk.Hex(l)
	}
	for _, s := range []struct{ line, told string }{
		{"plan -", "no 3 0"},
		{"plan 00", "no 3 1"},
		{"plan " + desk.Hex(b[:6]), "no 3 6"},
		{"plan " + strings.Repeat("ab", api.MaxBytes), "no 4 0"},
		{"plan " + strings.Repeat("ab", api.MaxBytes+1), "no 14 8000"},
		{upset(0), "no 4 0"},
		{upset(2), "no 4 0"},
		{upset(3), fmt.Sprintf("no 19 %d", len(b)-4)},
		{upset(len(b) - 1), fmt.Sprintf("no 19 %d", len(b)-4)},
		{summed(83, 89, 1), "no 3 3"},
		{summed(83, 89, 1, 0, 0, 0, 0, 0, 0, 0), "no 5 10"},
		{summed(83, 89, 1, 0x80, 0), "no 1 4"},
		{summed(83, 89, 1, 9, 0), "no 2 3"},
		{summed(append(slices.Clone(b[:len(b)-4]), 7)...), fmt.Sprintf("no 4 %d", len(b)-4)},
		{change(func(p *api.Plan) { p.States = []api.State{{Head: 0, Else: 1}, {Head: 0, Else: api.Accept}} }), "no 7 3001"},
		{change(func(p *api.Plan) { p.States[0].On.H, p.States[0].Cases = 1, []api.Case{{To: api.Accept}} }), "no 12 3000"},
		{change(func(p *api.Plan) { p.Tabs[2].Keys[0].H = 1 }), "no 12 6002"},
		{change(func(p *api.Plan) { p.Acts[more].Ops[0].R.H = 1 }), "no 12 6000"},
	} {
		d := desked(t, yard())
		d.want("ok", "add 0 1 5 0 0 0 1")
		d.want(s.told, s.line)
		d.want("what\nwhat", "read 0", "send 3 05")
		d.want(s.told, s.line)
		d.want("yes 3\nelse 0 1\nout 0 06", yards, "read 0", "send 3 05")
		d.want(s.told+"\nwhat\nyes 3\nelse 0 1", s.line, "read 0", yards, "read 0")
	}
	d := desked(t, yard())
	d.want("ok\nwhat\ndrop", "add 0 1 5 0 0 0 1", "plan zz", "send 3 05")
	d.want("yes 3\nout 0 06", yards, "send 3 05")
}

// summed tells the line of a plan's bytes with a right sum behind them.
func summed(b ...byte) string {
	sum := codec.Sum(b)
	return "plan " + desk.Hex(append(b, byte(sum), byte(sum>>8), byte(sum>>16), byte(sum>>24)))
}

// How many tables there are is told, and each of them is there.
func TestHowManyTables(t *testing.T) {
	for n := range api.MaxTabs + 1 {
		p := yard()
		p.Nodes = nil
		p.Tabs = slices.Repeat(p.Tabs[:1], n)
		d := desked(t, p)
		for tab := range n {
			d.want("else 0 1", fmt.Sprintf("read %d", tab))
		}
		d.want("no 1", fmt.Sprintf("read %d", n))
	}
	d := desked(t, empty())
	d.wantEach("send 0 -", "out 0 -", "send 9 00ff", "out 0 00ff", "read 0", "no 1")
}

// Of too many lines none is done, whatever they are.
func TestTooManyLines(t *testing.T) {
	d := desked(t, yard())
	many := slices.Repeat([]string{"default 0 0 9"}, api.MaxActsDo+1)
	d.wantFault(fault(api.ErrMany, -1), many...)
	d.wantFault(fault(api.ErrMany, -1), make([]string, api.MaxActsDo+1)...)
	d.wantFault(fault(api.ErrMany, -1), make([]string, 5*api.MaxActsDo)...)
	d.wantFault(fault(api.ErrMany, -1), append(many, "a\nb", strings.Repeat("x", 3*api.MaxBytes+1))...)
	d.wantFault(fault(api.ErrMany, -1), append([]string{"plan 00"}, many...)...)
	d.want("else 0 1", "read 0")
	d.want(strings.Repeat("ok\n", api.MaxActsDo-1)+"ok", many[1:]...)
	d.want("else 0 9", "read 0")
	d.want("", make([]string, api.MaxActsDo)...)
	none := tester{t, desk.New()}
	none.wantFault(fault(api.ErrMany, -1), many...)
	none.want("")
}

// With a line that is none, no line is done; the first one is told.
func TestNoLines(t *testing.T) {
	long := strings.Repeat("x", 3*api.MaxBytes+1)
	d := desked(t, yard())
	for _, bad := range []string{"\n", "a\nb", "\nread 0", "read 0\n", "read\n0", long, strings.Repeat(" ", len(long)), strings.Repeat("\n", len(long))} {
		for at := range 4 {
			l := slices.Repeat([]string{"default 0 0 9"}, at)
			l = append(l, bad, "add 0 1 5 0 0 0 1", bad, "plan 00", long, "a\nb")
			d.wantFault(fault(api.ErrLine, at), l...)
			d.wantFault(fault(api.ErrLine, at), l[:at+1]...)
		}
	}
	last := make([]string, api.MaxActsDo)
	last[api.MaxActsDo-1] = "\n"
	d.wantFault(fault(api.ErrLine, api.MaxActsDo-1), last...)
	d.want("else 0 1", "read 0")
	d.want("what", long[1:])
	d.want("else 0 1", "read 0"+strings.Repeat(" ", 3*api.MaxBytes-6))
	d.want("no 2", "default 0 0"+strings.Repeat(" 1", (3*api.MaxBytes-11)/2))
	d.wantFault(fault(api.ErrLine, 0), "default 0 0"+strings.Repeat(" 1", (3*api.MaxBytes-11)/2+1))
	tester{t, desk.New()}.wantFault(fault(api.ErrLine, 1), "x", "a\nb")
}

// A plan may have as many bytes as a plan may have, and a row as many numbers as a line has room for.
func TestLongLines(t *testing.T) {
	d := desked(t, yard())
	d.want("no 2", "add 0 11000"+strings.Repeat(" 7", 11000)+" 0 0 0 1")
	d.want("no 2", "add 2 2 1 1 11000"+strings.Repeat(" 7", 11000)+" 0 0 3")
	d.want("what", "add 0 11001"+strings.Repeat(" 7", 11000)+" 0 0 0")
	d.want("what", "add 0 1"+strings.Repeat("0", 20000)+" 7 0 0 0 1")
	d.want("no 14", "send 0 "+strings.Repeat("ab", 11000))
	d.want("else 0 1", "read 0")
}

// Desks know nothing of each other.
func TestDesksApart(t *testing.T) {
	a, b, none := desked(t, yard()), desked(t, yard()), tester{t, desk.New()}
	a.want("ok\ndrop", "add 0 1 5 0 0 0 1", "send 3 05")
	b.want("else 0 1\nout 0 06", "read 0", "send 3 05")
	none.want("what", "read 0")
	b.want("no 3 0", "plan -")
	a.want("entry 1 5 0 0 0 1\nelse 0 1", "read 0")
}

// Lines are neither changed nor kept, nor is what lies behind their length.
func TestMemory(t *testing.T) {
	d := desked(t, yard())
	lines, told := halves(script())
	l := append(slices.Clone(lines), "a\nb", "default 0 0 77")
	d.want(strings.Join(told, "\n"), l[:len(lines)]...)
	if !slices.Equal(l, append(slices.Clone(lines), "a\nb", "default 0 0 77")) {
		t.Errorf("changed: %q", l)
	}
	clear(l)
	d.want("entry 1 5 0 0 0 0 250\nelse 0 2", "read 0")
}
