package cluster

import (
	"tributary/api"
	"tributary/cursor"
)

// How long Settle goes on at most: so many ticks of each node, and so many messages that arrive.
const (
	mostTicks    = 1000
	mostArrivals = 5000
)

// Do does a step, and answers what it shows.
func (c *Cluster) Do(a api.Act) api.Told {
	if !c.made() {
		return api.Told{Code: api.ErrClosed}
	}
	events, e := c.do(a)
	t := api.Told{Code: e, Events: events}
	for id, m := range c.machines {
		for _, x := range m.node.Answers() {
			t.Nodes, t.Answers = append(t.Nodes, id), append(t.Answers, x)
		}
	}
	return t
}

// Settle lets all nodes tick so many times, and all messages arrive behind each time; it answers what showed answers.
func (c *Cluster) Settle(ticks int) []api.Told {
	var l []api.Told
	do := func(a api.Act) {
		if t := c.Do(a); len(t.Answers) > 0 {
			l = append(l, t)
		}
	}
	left := mostArrivals
	for range min(ticks, mostTicks) {
		for id := range c.Nodes() {
			if c.Up(id) {
				do(api.Act{Kind: api.ActTick, Node: id})
			}
		}
		for ; left > 0 && c.Bag() > 0; left-- {
			do(api.Act{Kind: api.ActArrive})
		}
	}
	return l
}

// do does a step, and answers the events that it shows.
func (c *Cluster) do(a api.Act) ([]api.Event, api.Errno) {
	l, known := fieldsOf(a.Kind)
	switch {
	case !known:
		return nil, api.ErrArg
	case l.has(ofNode) && !c.has(a.Node):
		return nil, api.ErrNone
	case l.has(ofNode) && !goesOff(a.Kind) && !c.Up(a.Node):
		return nil, api.ErrOff
	case a.Kind == api.ActPoll:
		return c.poll(a)
	}
	return nil, c.deedOf(a.Kind)(a)
}

// goesOff tells whether a step of that kind is done to a node that is not up, or is dead, too.
func goesOff(kind int) bool {
	switch kind {
	case api.ActStop, api.ActCrash, api.ActBoot, api.ActCut:
		return true
	}
	return false
}

// deedOf answers what does a step of that kind, which there is, and shows no events.
func (c *Cluster) deedOf(kind int) func(a api.Act) api.Errno {
	switch kind {
	case api.ActTick:
		return c.tick
	case api.ActArrive:
		return c.arrive
	case api.ActCopy:
		return c.copied
	case api.ActLose:
		return c.lose
	case api.ActAsk:
		return c.ask
	case api.ActFind:
		return c.find
	case api.ActCompact:
		return c.compact
	case api.ActCrash:
		return c.crash
	case api.ActBoot:
		return c.boot
	case api.ActStop:
		return c.stop
	case api.ActOpen:
		return c.open
	case api.ActAfter:
		return c.after
	}
	return c.cut
}

// send puts what a node's call sends on its way, and answers what the call said.
func (c *Cluster) send(l []api.Msg, e api.Errno) api.Errno {
	// The bag refuses none of these: nodes send what may be.
	c.bag.Put(l...)
	return e
}

// tick lets a node's clock go on.
func (c *Cluster) tick(a api.Act) api.Errno {
	return c.send(c.running(a.Node).Tick())
}

// arrive takes a message from its way, and lets its node do what it does.
func (c *Cluster) arrive(a api.Act) api.Errno {
	return c.deliver(c.bag.Take(a.N))
}

// copied lets a message's node do what it does, while it stays on its way.
func (c *Cluster) copied(a api.Act) api.Errno {
	return c.deliver(c.bag.Get(a.N))
}

// deliver lets the node to which m goes do what m does, if it is up, and not dead, and m was found.
func (c *Cluster) deliver(m api.Msg, e api.Errno) api.Errno {
	if e != api.OK || !c.Up(m.To) {
		return e
	}
	return c.send(c.running(m.To).Step(m))
}

// lose takes a message from its way.
func (c *Cluster) lose(a api.Act) api.Errno {
	return c.bag.Lose(a.N)
}

// cut takes all messages from, or to, a node from their way.
func (c *Cluster) cut(a api.Act) api.Errno {
	c.bag.Lost(a.Node)
	return api.OK
}

// ask asks a node for what a client wants.
func (c *Cluster) ask(a api.Act) api.Errno {
	return c.send(c.running(a.Node).Ask(a.Ask))
}

// find asks a node for a document.
func (c *Cluster) find(a api.Act) api.Errno {
	return c.send(c.running(a.Node).Find(a.Ask.Session, a.Ask.Number, a.Ask.Coll, a.Ask.Id))
}

// compact lets a node put a snapshot in the place of entries.
func (c *Cluster) compact(a api.Act) api.Errno {
	return c.running(a.Node).Compact()
}

// stop tells when the power of a node's disk goes.
func (c *Cluster) stop(a api.Act) api.Errno {
	return c.machines[a.Node].disk.Stop(a.N, a.M)
}

// crash takes a node down; its disk keeps what was sure, and what a says.
func (c *Cluster) crash(a api.Act) api.Errno {
	m := &c.machines[a.Node]
	e := m.disk.Crash(a.Keep)
	if e == api.OK {
		m.node = nil
	}
	return e
}

// boot lets a node go on from what is on its disk.
func (c *Cluster) boot(a api.Act) api.Errno {
	if c.Up(a.Node) {
		return api.ErrTwice
	}
	return c.start(a.Node)
}

// open puts a cursor at a place, which looks first at an entry, or at the one behind what a node has done.
func (c *Cluster) open(a api.Act) api.Errno {
	at := a.N
	if at == 0 {
		at = c.running(a.Node).Status().Done + 1
	}
	return c.place(a.Cursor, func() (*cursor.Cursor, api.Errno) { return cursor.At(a.Filter, at) })
}

// after puts a cursor at a place, which goes on behind a token in a node's log.
func (c *Cluster) after(a api.Act) api.Errno {
	resume := cursor.StartAfter
	if a.M == 0 {
		resume = cursor.After
	}
	first, base, l := c.running(a.Node).Log()
	return c.place(a.Cursor, func() (*cursor.Cursor, api.Errno) { return resume(a.Filter, a.Token, first, base, l) })
}

// place puts the cursor that is made at a place; if it is refused, the one that was there stays.
func (c *Cluster) place(place int, made func() (*cursor.Cursor, api.Errno)) api.Errno {
	if !isCursor(place) {
		return api.ErrNone
	}
	x, e := made()
	if e == api.OK {
		c.cursors[place] = x
	}
	return e
}

// poll answers what a cursor tells of a node's log.
func (c *Cluster) poll(a api.Act) ([]api.Event, api.Errno) {
	x := c.cursorAt(a.Cursor)
	if x == nil {
		return nil, api.ErrNone
	}
	n := c.running(a.Node)
	first, _, l := n.Log()
	return x.Next(first, l, n.State().Images(), a.N)
}
