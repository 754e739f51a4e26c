package twin_test

import (
	"testing"

	"shuntyard/api"
	"shuntyard/twin"
)

// full tells a reply of which nothing is zero, in memory of its own.
func full() api.Reply {
	entry := func() api.Entry {
		return api.Entry{Keys: []uint64{1, 2}, Masks: []uint64{3, 4}, Len: 5, Prio: 6, Act: 7, Args: []uint64{8, 9}}
	}
	return api.Reply{
		Code:    10,
		Entries: []api.Entry{entry(), entry()},
		Default: api.Hit{Act: 11, Args: []uint64{12, 13}},
		R:       api.Result{Port: 14, Bytes: []byte{15, 16}},
	}
}

func wantSame(t *testing.T, name string, a, b api.Reply, want bool) {
	t.Helper()
	if twin.Same(a, b) != want || twin.Same(b, a) != want {
		t.Errorf("%s: %v, %v, want %v: %+v, %+v", name, twin.Same(a, b), twin.Same(b, a), want, a, b)
	}
}

// Each number and each list of a reply counts, with its length and its order.
func TestSame(t *testing.T) {
	wantSame(t, "zero", api.Reply{}, api.Reply{}, true)
	wantSame(t, "full", full(), full(), true)
	wantSame(t, "full and zero", full(), api.Reply{}, false)
	for _, s := range []struct {
		name   string
		change func(r *api.Reply)
	}{
		{"code", func(r *api.Reply) { r.Code = 0 }},
		{"no entries", func(r *api.Reply) { r.Entries = nil }},
		{"fewer entries", func(r *api.Reply) { r.Entries = r.Entries[:1] }},
		{"more entries", func(r *api.Reply) { r.Entries = append(r.Entries, api.Entry{}) }},
		{"a key", func(r *api.Reply) { r.Entries[0].Keys[1]++ }},
		{"fewer keys", func(r *api.Reply) { r.Entries[1].Keys = r.Entries[1].Keys[:1] }},
		{"order of keys", func(r *api.Reply) { r.Entries[1].Keys = []uint64{2, 1} }},
		{"a mask", func(r *api.Reply) { r.Entries[1].Masks[0]++ }},
		{"no masks", func(r *api.Reply) { r.Entries[0].Masks = nil }},
		{"len", func(r *api.Reply) { r.Entries[1].Len++ }},
		{"prio", func(r *api.Reply) { r.Entries[1].Prio = -6 }},
		{"act", func(r *api.Reply) { r.Entries[0].Act++ }},
		{"an argument", func(r *api.Reply) { r.Entries[1].Args[1] |= 1 << 63 }},
		{"more arguments", func(r *api.Reply) { r.Entries[0].Args = append(r.Entries[0].Args, 0) }},
		{"act of the default", func(r *api.Reply) { r.Default.Act = -11 }},
		{"an argument of the default", func(r *api.Reply) { r.Default.Args[0]++ }},
		{"no arguments of the default", func(r *api.Reply) { r.Default.Args = nil }},
		{"port", func(r *api.Reply) { r.R.Port = -1 }},
		{"a byte", func(r *api.Reply) { r.R.Bytes[1]++ }},
		{"fewer bytes", func(r *api.Reply) { r.R.Bytes = r.R.Bytes[:1] }},
		{"no bytes", func(r *api.Reply) { r.R.Bytes = nil }},
	} {
		r := full()
		s.change(&r)
		wantSame(t, s.name, full(), r, false)
	}
	r := full()
	r.Entries[0].Keys[0], r.Entries[1].Keys[0] = 0, 9
	other := full()
	other.Entries[0].Keys[0], other.Entries[1].Keys[0] = 9, 0
	wantSame(t, "order of entries", r, other, false)
}

// A list without elements is the same, whether nil or empty; what lies behind a length does not count.
func TestSameOfLists(t *testing.T) {
	wantSame(t, "of a reply", api.Reply{}, api.Reply{
		Entries: []api.Entry{},
		Default: api.Hit{Args: []uint64{}},
		R:       api.Result{Bytes: []byte{}},
	}, true)
	wantSame(t, "of an entry",
		api.Reply{Entries: []api.Entry{{}}},
		api.Reply{Entries: []api.Entry{{Keys: []uint64{}, Masks: []uint64{}, Args: []uint64{}}}}, true)
	long, other := full(), full()
	long.R.Bytes = []byte{15, 16, 17}[:2]
	long.Default.Args = []uint64{12, 13, 14}[:2]
	long.Entries = append(long.Entries, api.Entry{Act: 3})[:2]
	wantSame(t, "behind the length", long, other, true)
}

// Same changes nothing.
func TestSameKeeps(t *testing.T) {
	a, b := full(), full()
	b.R.Bytes[0]++
	twin.Same(a, b)
	b.R.Bytes[0]--
	if !alike(a, full()) || !alike(b, full()) {
		t.Errorf("%+v, %+v", a, b)
	}
}
