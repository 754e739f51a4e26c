package script_test

import (
	"math"
	"reflect"
	"slices"
	"testing"

	"shuntyard/api"
	"shuntyard/script"
	"shuntyard/store"
)

// tables tells two: by whole keys and by beginnings, of 8 bits, that may say an action without parameters, or one with one.
func tables(t *testing.T) []*store.Store {
	t.Helper()
	var l []*store.Store
	for _, kind := range []int{api.KExact, api.KPrefix} {
		tab := api.Table{Kind: kind, Acts: []int{0, 1}, Cap: 2}
		s, fault := store.New(tab, []int{8}, []api.Action{{}, {W: []int{8}}})
		if fault.Code != 0 {
			t.Fatal(fault)
		}
		l = append(l, s)
	}
	return l
}

// never is a sender for steps that send nothing.
func never(t *testing.T) script.Sender {
	return func(b []byte, port int) (api.Result, api.Fault) {
		t.Errorf("%v was sent by %d", b, port)
		return api.Result{}, api.Fault{}
	}
}

func entry(key uint64, long, act int, args ...uint64) api.Entry {
	return api.Entry{Keys: []uint64{key}, Len: long, Act: act, Args: args}
}

// plain tells a reply with nil for lists that are empty, so that it can be held against a literal.
func plain(r api.Reply) api.Reply {
	out := api.Reply{Code: r.Code, Default: api.Hit{Act: r.Default.Act}, R: api.Result{Port: r.R.Port}}
	out.Default.Args = append(out.Default.Args, r.Default.Args...)
	out.R.Bytes = append(out.R.Bytes, r.R.Bytes...)
	for _, e := range r.Entries {
		e.Keys, e.Masks, e.Args = append([]uint64(nil), e.Keys...), append([]uint64(nil), e.Masks...), append([]uint64(nil), e.Args...)
		out.Entries = append(out.Entries, e)
	}
	return out
}

func want(t *testing.T, s api.Step, got, want api.Reply) {
	t.Helper()
	if !reflect.DeepEqual(plain(got), plain(want)) {
		t.Errorf("%+v: %+v, want %+v", s, got, want)
	}
}

// Each kind of step is done to the table that it names, and to no other one.
func TestTables(t *testing.T) {
	tabs := tables(t)
	e := entry(0x80, 1, 1, 7)
	for _, x := range []struct {
		s    api.Step
		want api.Reply
	}{
		{api.Step{Kind: api.SRead, Tab: 1}, api.Reply{}},
		{api.Step{Kind: api.SAdd, Tab: 1, E: e}, api.Reply{}},
		{api.Step{Kind: api.SAdd, Tab: 1, E: e}, api.Reply{Code: api.ErrTwice}},
		{api.Step{Kind: api.SAdd, Tab: 0, E: e}, api.Reply{Code: api.ErrForm}},
		{api.Step{Kind: api.SRead, Tab: 0}, api.Reply{}},
		{api.Step{Kind: api.SRead, Tab: 1}, api.Reply{Entries: []api.Entry{e}}},
		{api.Step{Kind: api.SChange, Tab: 1, E: entry(0x80, 1, 1, 8)}, api.Reply{}},
		{api.Step{Kind: api.SChange, Tab: 1, E: entry(0x80, 2, 1, 8)}, api.Reply{Code: api.ErrNone}},
		{api.Step{Kind: api.SDefault, Tab: 1, E: entry(1<<40, 99, 1, 9)}, api.Reply{}},
		{api.Step{Kind: api.SDefault, Tab: 1, E: entry(0, 0, 1, 256)}, api.Reply{Code: api.ErrWidth}},
		{api.Step{Kind: api.SRead, Tab: 1}, api.Reply{Entries: []api.Entry{entry(0x80, 1, 1, 8)}, Default: api.Hit{Act: 1, Args: []uint64{9}}}},
		{api.Step{Kind: api.SDrop, Tab: 1, E: entry(0x80, 1, 5)}, api.Reply{}},
		{api.Step{Kind: api.SRead, Tab: 1}, api.Reply{Default: api.Hit{Act: 1, Args: []uint64{9}}}},
		{api.Step{Kind: api.SRead, Tab: 0}, api.Reply{}},
	} {
		want(t, x.s, script.Do(x.s, tabs, never(t)), x.want)
	}
}

// A packet is handed over as it came, whatever tables there are.
func TestSend(t *testing.T) {
	long := make([]byte, api.MaxPacket+1)
	for _, tabs := range [][]*store.Store{nil, tables(t)} {
		for _, b := range [][]byte{nil, {7, 9}, long} {
			for _, port := range []int{math.MinInt, -1, 0, 3, 0x10000} {
				sent := 0
				send := func(l []byte, by int) (api.Result, api.Fault) {
					sent++
					if !slices.Equal(l, b) || by != port {
						t.Errorf("%v by %d, want %v by %d", l, by, b, port)
					}
					return api.Result{Port: 5, Bytes: []byte{1, 2}}, api.Fault{Code: len(l), At: 44}
				}
				s := api.Step{Kind: api.SSend, Tab: 9, E: entry(1, 1, 1), B: b, Port: port}
				want(t, s, script.Do(s, tabs, send), api.Reply{Code: len(b), R: api.Result{Port: 5, Bytes: []byte{1, 2}}})
				if sent != 1 {
					t.Errorf("%d times, want once", sent)
				}
			}
		}
	}
}

// A step of no kind is told ahead of a table that there is not.
func TestWrongSteps(t *testing.T) {
	tabs := tables(t)
	for _, kind := range []int{math.MinInt, -1, 0, 7, math.MaxInt} {
		for _, tab := range []int{-1, 0, 1, 2} {
			s := api.Step{Kind: kind, Tab: tab, E: entry(1, 0, 0)}
			want(t, s, script.Do(s, tabs, never(t)), api.Reply{Code: api.ErrKind})
		}
	}
	for kind := api.SAdd; kind <= api.SRead; kind++ {
		for _, tab := range []int{math.MinInt, -1, 2, math.MaxInt} {
			s := api.Step{Kind: kind, Tab: tab, E: entry(1, 0, 0)}
			want(t, s, script.Do(s, tabs, never(t)), api.Reply{Code: api.ErrRange})
		}
		s := api.Step{Kind: kind}
		want(t, s, script.Do(s, nil, never(t)), api.Reply{Code: api.ErrRange})
	}
	for _, s := range tabs {
		if s.Len() != 0 {
			t.Errorf("there is %v", s.All())
		}
	}
}
