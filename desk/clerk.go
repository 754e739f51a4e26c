package desk

import (
	"shuntyard/api"
	"shuntyard/codec"
	"shuntyard/twin"
)

// clerk does lines at a Desk, and tells what they tell.
type clerk struct {
	*Desk
	teller
}

// doLine does a line; without words there is nothing to do, and to tell.
func (c *clerk) doLine(line string) {
	r := &reader{words: parted(line)}
	switch {
	case len(r.words) == 0:
	case r.words[0] == "plan":
		c.doPlan(r)
	default:
		c.doStep(r)
	}
}

func (c *clerk) doPlan(r *reader) {
	r.word()
	b := r.bytes()
	if !r.right() {
		c.tell("what")
		return
	}
	p, fault := codec.Decode(b)
	c.twin = nil // whatever comes of the new plan, the one that was there is gone
	if fault.Code == 0 {
		c.twin, fault = twin.New(p)
	}
	if fault.Code != 0 {
		c.tell("no", small(fault.Code, fault.At))
		return
	}
	c.tell("yes", small(len(p.Tabs)))
}

func (c *clerk) doStep(r *reader) {
	s := r.step()
	if c.twin == nil || !r.right() {
		c.tell("what")
		return
	}
	replies, _ := c.twin.Run([]api.Step{s}) // there is no fault: the Twin was never asked one way alone
	for _, reply := range replies {
		c.tellReply(s.Kind, reply)
	}
}
