package cursor

import (
	"slices"

	"tributary/api"
	"tributary/event"
	"tributary/filter"
	"tributary/image"
)

// part is a log's part: its entries from the index first on.
type part struct {
	first int
	l     []api.Entry
}

// entry answers the entry i, and whether there is one; {} is none.
func (p part) entry(i int) (api.Entry, bool) {
	at := i - p.first
	if at < 0 || at >= len(p.l) {
		return api.Entry{}, false
	}
	return p.l[at], true
}

// What is found where a cursor stands: nothing, an entry that does not match, one that does, or the end that is due.
const (
	foundNothing = iota
	foundOther
	foundMatch
	foundEnd
)

// batch tells what follows in p, till there are most events, or nothing follows.
func (c *Cursor) batch(p part, m *image.Images, most int) ([]api.Event, api.Errno) {
	var events []api.Event
	for len(events) < most {
		v, no := api.Event{}, api.OK
		e, found := c.look(p)
		switch found {
		case foundNothing:
			return events, api.OK
		case foundOther:
			c.pass(e)
			continue
		case foundMatch:
			v, no = eventOf(e, c.at, m)
			c.pass(e)
		case foundEnd:
			v, no = event.End(c.at-1, c.term, c.filter.Coll)
			c.stage = stageEnded
		}
		if no != api.OK {
			return nil, no
		}
		events = append(events, v)
		c.token = slices.Clone(v.Token)
	}
	return events, api.OK
}

// look answers what is found where c stands, and the entry, if it is one.
func (c *Cursor) look(p part) (api.Entry, int) {
	switch c.stage {
	case stageDue:
		return api.Entry{}, foundEnd
	case stageEnded:
		return api.Entry{}, foundNothing
	}
	e, there := p.entry(c.at)
	switch {
	case !there:
		return api.Entry{}, foundNothing
	case filter.Match(c.filter, e):
		return e, foundMatch
	}
	return e, foundOther
}

// pass moves c behind the entry e, which it looked at.
func (c *Cursor) pass(e api.Entry) {
	c.at++
	c.endBehind(e)
}

// endBehind makes an end due, if e, behind which c stands, ends the stream.
func (c *Cursor) endBehind(e api.Entry) {
	if filter.Ends(c.filter, e) {
		c.stage, c.term = stageDue, e.Term
	}
}

// eventOf answers the event of the entry e at an index, with what m knows of the document ahead of it.
func eventOf(e api.Entry, index int, m *image.Images) (api.Event, api.Errno) {
	pre, had, no := m.Get(index)
	if no != api.OK {
		pre, had = api.Value{}, api.ImageExpired
	}
	return event.Of(e, index, pre, had)
}
