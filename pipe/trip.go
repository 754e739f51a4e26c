package pipe

import (
	"slices"

	"shuntyard/api"
	"shuntyard/bits"
	"shuntyard/pack"
	"shuntyard/plan"
	"shuntyard/store"
)

// trip is a packet on its way through the plan that it embeds, with which flow.Check found nothing wrong, and what the packet carries.
type trip struct {
	api.Plan
	cargo
	stores []*store.Store
	packet []byte
	taken  int  // bytes of the packet
	to     int  // the port by which it will go out
	lost   bool // it will go nowhere, whatever is said of ports
}

func tripOf(p *Pipe, b []byte, port int) *trip {
	return &trip{Plan: p.plan, cargo: cargoOf(p.plan, port), stores: p.Tabs, packet: b}
}

// parse takes the packet apart, and tells whether it was accepted.
func (t *trip) parse() bool {
	n := 0
	for n < len(t.States) {
		n = stage{t, t.States[n]}.next()
	}
	return n == api.Accept
}

// control does node by node, to the end.
func (t *trip) control() {
	n := 0
	for n < len(t.Nodes) {
		n = stop{t, t.Nodes[n]}.next()
	}
}

// result tells where the packet goes out, and what.
func (t *trip) result() api.Result {
	if t.lost {
		return api.Result{Port: nowhere}
	}
	var out []byte
	for _, head := range t.Out {
		if t.there[head] {
			b, _ := pack.Write(t.Heads[head], t.heads[head]) // set keeps all numbers as narrow as their fields
			out = append(out, b...)
		}
	}
	return api.Result{Port: t.to, Bytes: append(out, t.packet[t.taken:]...)}
}

// take reads a header behind what was taken, and tells whether its bytes are all there.
func (t *trip) take(head int) bool {
	h := t.Heads[head]
	l, fault := pack.Read(h, t.packet, t.taken)
	if fault.Code != 0 {
		return false
	}
	size, _ := pack.Size(h) // of a right plan it has no fault
	t.taken += size
	t.load(head, l)
	return true
}

// says tells what a table says for what its Keys have. Tabs lie open: where they hold no table any more, or one that says what this table may not, it is as if the table were new.
func (t *trip) says(n int) api.Hit {
	tab := t.Tabs[n]
	if n < len(t.stores) && t.stores[n] != nil {
		hit, _ := t.stores[n].Find(t.fields(tab.Keys))
		if slices.Contains(tab.Acts, hit.Act) && len(hit.Args) == len(t.Acts[hit.Act].W) {
			return hit
		}
	}
	return api.Hit{Act: tab.Def, Args: tab.Args}
}

// fields tells what each of some fields has.
func (t *trip) fields(l []api.Ref) []uint64 {
	out := make([]uint64, len(l))
	for i, r := range l {
		out[i] = t.field(r)
	}
	return out
}

// do does an action, with what was said.
func (t *trip) do(said api.Hit) {
	read := func(r api.Ref) uint64 {
		if r.H == api.InArg {
			return said.Args[r.F]
		}
		return t.field(r)
	}
	for _, o := range t.Acts[said.Act].Ops {
		t.deed(o, read)
	}
}

// deed does one, whose fields are read by the function that is handed over.
func (t *trip) deed(o api.Op, read reader) {
	switch o.Kind {
	case api.OSet:
		t.set(o.R, value(o.E, read))
	case api.OOn:
		t.there[o.Head] = true
	case api.OOff:
		t.unload(o.Head)
	case api.ODrop:
		t.lost = true
	case api.OPort:
		t.to = int(value(o.E, read) & mostPort)
	case api.OSum:
		t.set(o.R, t.sum(o.Head, o.R))
	}
}

// set lets a field have the low bits of v, as many as it has.
func (t *trip) set(r api.Ref, v uint64) {
	t.row(r.H)[r.F] = v & bits.Mask(plan.Width(t.Plan, r, nil))
}

// sum tells the sum of a header, without the field into which it goes.
func (t *trip) sum(head int, into api.Ref) uint64 {
	skip := -1
	if into.H == head {
		skip = into.F
	}
	s, _ := pack.Sum(t.Heads[head], t.heads[head], skip) // set keeps all numbers as narrow as their fields
	return uint64(s)
}

// stage is a trip at the state that it embeds.
type stage struct {
	*trip
	api.State
}

// next takes the state's header, and tells where it leads.
func (s stage) next() int {
	if s.Head >= 0 && !s.take(s.Head) {
		return api.Reject
	}
	// Without Cases On may be anything: it is read for one alone.
	for _, c := range s.Cases {
		if s.field(s.On)&c.Mask == c.Value {
			return c.To
		}
	}
	return s.Else
}

// stop is a trip at the node that it embeds.
type stop struct {
	*trip
	api.Node
}

// next does what the node says, and tells where it leads.
func (s stop) next() int {
	switch s.Kind {
	case api.NTable:
		s.do(s.says(s.N))
	case api.NDo:
		s.do(api.Hit{Act: s.N})
	case api.NIf:
		if value(s.E, s.field) == 0 {
			return s.No
		}
	case api.NThere:
		if !s.there[s.N] {
			return s.No
		}
	}
	return s.Yes
}
