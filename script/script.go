// Package script does steps of scripts, whichever way packets are sent: a Rig and a Twin's Pipe hold to the same words (see doc/18-rig.md).
package script

import (
	"shuntyard/api"
	"shuntyard/store"
)

// Sender tells what becomes of a packet that came in by a port.
type Sender func(b []byte, port int) (api.Result, api.Fault)

// Do does a step to some tables, and tells what is replied; a packet is sent by the function that is handed over.
func Do(s api.Step, tabs []*store.Store, send Sender) api.Reply {
	switch {
	case s.Kind < api.SAdd || s.Kind > api.SSend:
		return api.Reply{Code: api.ErrKind}
	case s.Kind == api.SSend:
		result, fault := send(s.B, s.Port)
		return api.Reply{Code: fault.Code, R: result}
	case s.Tab < 0 || s.Tab >= len(tabs):
		return api.Reply{Code: api.ErrRange}
	case s.Kind == api.SRead:
		return read(tabs[s.Tab])
	}
	return api.Reply{Code: change(tabs[s.Tab], s.Kind, s.E)}
}

// read tells all that a table has.
func read(t *store.Store) api.Reply {
	return api.Reply{Entries: t.All(), Default: t.Says()}
}

// change does a step of one of the kinds that change a table, or tells the code of why it can't be done.
func change(t *store.Store, kind int, e api.Entry) int {
	switch kind {
	case api.SAdd:
		return t.Add(e)
	case api.SChange:
		return t.Change(e)
	case api.SDrop:
		return t.Drop(e)
	}
	return t.Default(api.Hit{Act: e.Act, Args: e.Args})
}
