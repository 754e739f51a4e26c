package store

import (
	"shuntyard/api"
	"shuntyard/exact"
	"shuntyard/prefix"
	"shuntyard/ternary"
)

// table is the one face of tables of all kinds. What it is given is of the form of its kind.
type table interface {
	Add(e api.Entry) int
	Change(e api.Entry) int
	Drop(e api.Entry) int
	Find(k []uint64) (api.Hit, bool)
	All() []api.Entry
	Len() int
}

// tableOf tells an empty table of a kind that there is; one by masks has the face as it stands.
func tableOf(t api.Table, w []int) table {
	switch t.Kind {
	case api.KExact:
		return whole{exact.New(len(w), t.Cap)}
	case api.KPrefix:
		return beginning{prefix.New(w[0], t.Cap)}
	}
	return ternary.New(len(w), t.Cap)
}

// whole is a table by whole keys.
type whole struct{ *exact.Table }

func (t whole) Add(e api.Entry) int    { return t.Table.Add(e.Keys, hitOf(e)) }
func (t whole) Change(e api.Entry) int { return t.Table.Change(e.Keys, hitOf(e)) }
func (t whole) Drop(e api.Entry) int   { return t.Table.Drop(e.Keys) }

// beginning is a table by beginnings of keys, which are one number.
type beginning struct{ *prefix.Table }

func (t beginning) Add(e api.Entry) int    { return t.Table.Add(e.Keys[0], e.Len, hitOf(e)) }
func (t beginning) Change(e api.Entry) int { return t.Table.Change(e.Keys[0], e.Len, hitOf(e)) }
func (t beginning) Drop(e api.Entry) int   { return t.Table.Drop(e.Keys[0], e.Len) }

// Find leaves out how long the beginning is: no table of another kind could tell it.
func (t beginning) Find(k []uint64) (api.Hit, bool) {
	h, _, ok := t.Table.Find(k[0])
	return h, ok
}

// hitOf tells what an entry says, with the entry's own list.
func hitOf(e api.Entry) api.Hit {
	return api.Hit{Act: e.Act, Args: e.Args}
}

// copied tells the same with a list of its own: neither a caller's list is kept, nor a kept one handed out.
func copied(h api.Hit) api.Hit {
	return api.Hit{Act: h.Act, Args: append([]uint64(nil), h.Args...)}
}
