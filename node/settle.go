package node

import (
	"tributary/api"
	"tributary/entry"
	"tributary/snap"
	"tributary/vote"
)

// settle makes what a call changed sure, does what is committed, answers who waits for it, and then lets sent go.
func (n *Node) settle(sent []api.Msg) ([]api.Msg, api.Errno) {
	if e := n.try(n.noteVote, n.saveSnap, n.saveLog, n.doCommitted, n.answer); e != api.OK {
		return nil, e
	}
	n.raft.Clean()
	return sent, api.OK
}

// noteVote notes the term and the vote.
func (n *Node) noteVote() api.Errno {
	s := n.raft.Brief()
	return n.votes.Set(s.Term, s.Vote)
}

// saveSnap saves the snapshot that was taken, and begins anew behind it.
func (n *Node) saveSnap() api.Errno {
	b := n.raft.Took()
	if len(b) == 0 {
		return api.OK
	}
	// It is loaded ahead of being saved: one that can not be loaded must not take the place of one that can.
	x, e := snap.Load(b)
	if e != api.OK {
		return e
	}
	if s := n.raft.Brief(); x.Index() != s.First-1 || x.Term() != s.Base {
		return api.ErrCode
	}
	if e := vote.Save(n.disk, b); e != api.OK {
		return e
	}
	n.state = x
	return n.log.Begin(x.Index() + 1)
}

// saveLog puts what was changed in the Raft's log into that on the disk.
func (n *Node) saveLog() api.Errno {
	first := n.raft.Changed()
	if first == 0 {
		return api.OK
	}
	if e := n.log.CutBehind(first - 1); e != api.OK {
		return e
	}
	for i := first; i <= n.raft.Last(); i++ {
		if e := n.saveEntry(i); e != api.OK {
			return e
		}
	}
	return n.log.Sync()
}

// saveEntry appends the Raft's entry i to the log on the disk.
func (n *Node) saveEntry(i int) api.Errno {
	x, e := n.raft.At(i)
	if e != api.OK {
		return e
	}
	b, e := entry.Encode(x)
	if e != api.OK {
		return e
	}
	_, e = n.log.Append(b)
	return e
}

// doCommitted does in the state what is committed.
func (n *Node) doCommitted() api.Errno {
	return n.doUpTo(n.raft.Brief().Commit, n.state)
}

// doUpTo does in a state the Raft's entries behind it, up to index last.
func (n *Node) doUpTo(last int, x *snap.State) api.Errno {
	for x.Index() < last {
		e, no := n.raft.At(x.Index() + 1)
		if no != api.OK {
			return no
		}
		if no := x.Do(e); no != api.OK {
			return no
		}
	}
	return api.OK
}
