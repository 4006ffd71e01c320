package node

import (
	"tributary/api"
	"tributary/entry"
	"tributary/files"
	"tributary/raft"
	"tributary/snap"
	"tributary/steps"
	"tributary/vote"
	"tributary/wal"
)

// Boot answers the node that goes on from what is on a disk.
func Boot(d *files.Disk, id, nodes, keep int) (*Node, api.Errno) {
	if d == nil || !mayBoot(id, nodes, keep) {
		return nil, api.ErrArg
	}
	// What is refused changes nothing: so it is tried on another disk, which is the same.
	if _, e := boot(d.Fork(), id, nodes, keep); e == api.ErrArg || e == api.ErrDead {
		return nil, e
	}
	return boot(d, id, nodes, keep)
}

// mayBoot tells whether these are a node of a replica set, and images are kept of so many entries.
func mayBoot(id, nodes, keep int) bool {
	_, e := raft.New(api.Start{Id: id, Nodes: nodes, Vote: api.NoNode, First: 1})
	_, no := snap.New(keep)
	return e == api.OK && no == api.OK
}

// boot boots from a disk, which is changed, even if that is refused.
func boot(d *files.Disk, id, nodes, keep int) (*Node, api.Errno) {
	n := &Node{disk: d}
	start := api.Start{Id: id, Nodes: nodes}
	var saved []byte
	e := steps.Do(
		func() (e api.Errno) { n.votes, e = vote.Open(d); return e },
		func() (e api.Errno) { n.state, saved, e = load(d, keep); return e },
		func() (e api.Errno) { n.log, e = wal.Open(d); return e },
		n.joinLog,
		func() (e api.Errno) { start.Entries, e = n.entries(); return e },
		func() (e api.Errno) { n.raft, e = n.begun(start); return e },
		func() api.Errno { return n.hold(saved) },
	)
	if e != api.OK {
		return nil, e
	}
	return n, api.OK
}

// load answers the state of the snapshot that is on a disk, and the snapshot; a state in which nothing was done, if there is none.
func load(d *files.Disk, keep int) (*snap.State, []byte, api.Errno) {
	b, e := vote.Load(d)
	switch e {
	case api.OK:
		x, e := snap.Load(b)
		return x, b, loaded(e)
	case api.ErrNone:
		x, e := snap.New(keep)
		return x, nil, e
	}
	return nil, nil, e
}

// loaded answers what is said of a disk, when e was said of something that stands on it.
func loaded(e api.Errno) api.Errno {
	if e != api.OK {
		return api.ErrDead
	}
	return api.OK
}

// joinLog lets the log begin anew behind the state, if it does not go on there.
func (n *Node) joinLog() api.Errno {
	i := n.state.Index()
	is, e := n.goesOn(i)
	if e != api.OK || is {
		return e
	}
	e = n.log.Begin(i + 1)
	if e == api.ErrArg {
		// The disk did not refuse that: no log begins behind so many entries.
		return api.ErrDead
	}
	return e
}

// goesOn tells whether the log goes on behind the state's index i.
func (n *Node) goesOn(i int) (bool, api.Errno) {
	if i+1 < n.log.First() || i+1 > n.log.Next() {
		return false, api.OK
	}
	if i < n.log.First() {
		return true, api.OK
	}
	x, e := n.read(i)
	return x.Term == n.state.Term(), e
}

// entries answers the log's entries behind the state's index.
func (n *Node) entries() ([]api.Entry, api.Errno) {
	var l []api.Entry
	for i := n.state.Index() + 1; i < n.log.Next(); i++ {
		x, e := n.read(i)
		if e != api.OK {
			return nil, e
		}
		l = append(l, x)
	}
	return l, api.OK
}

// read answers the log's entry i, which is there.
func (n *Node) read(i int) (api.Entry, api.Errno) {
	b, _ := n.log.Get(i)
	x, e := entry.Decode(b)
	return x, loaded(e)
}

// begun answers the Raft that begins behind the state, by s, which has its entries.
func (n *Node) begun(s api.Start) (*raft.Raft, api.Errno) {
	s.Term, s.Vote = n.votes.Term(), n.votes.For()
	s.First, s.Base, s.Commit = n.state.Index()+1, n.state.Term(), n.state.Index()
	return raft.New(s)
}

// hold lets the Raft hold the snapshot that was on the disk, if there is one that something made.
func (n *Node) hold(saved []byte) api.Errno {
	if n.state.Index() == 0 {
		return api.OK
	}
	return n.raft.Hold(saved)
}
