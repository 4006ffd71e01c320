package raft

import (
	"slices"

	"tributary/api"
	"tributary/entry"
)

// peer is what a leader knows of a node: the index that is sent next, up to which index the logs are the same, and the last round that it answered, or, of the leader itself, that it began.
type peer struct {
	next, match, round int
}

// Propose appends e, and answers its index, and what is sent.
func (r *Raft) Propose(e api.Entry) (int, []api.Msg, api.Errno) {
	no := r.mayLead()
	switch {
	case no != api.OK:
		return 0, nil, no
	case !entry.May(e) || e.Kind == api.EntryNoop:
		return 0, nil, api.ErrArg
	case len(r.log.entries) >= api.MaxLog-api.LogSpare:
		return 0, nil, api.ErrFull
	}
	e.Term = r.term
	r.add(e)
	sent := r.call()
	r.look()
	return r.log.last(), sent, api.OK
}

// Begin begins a round, and answers it, and what is sent.
func (r *Raft) Begin() (int, []api.Msg, api.Errno) {
	if no := r.mayLead(); no != api.OK {
		return 0, nil, no
	}
	r.own().round++
	return r.own().round, r.call(), api.OK
}

// Sure tells whether, since a round began, nobody can have committed what is not committed here.
func (r *Raft) Sure(round int) bool {
	if r.mayLead() != api.OK {
		return false
	}
	term, _ := r.log.termAt(r.commit)
	return term == r.term && r.majority(func(node int) bool { return r.peers[node].round >= round })
}

// mayLead answers what is said where a leader is asked for.
func (r *Raft) mayLead() api.Errno {
	switch {
	case !r.made():
		return api.ErrClosed
	case r.role != api.RoleLeader:
		return api.ErrLeader
	}
	return api.OK
}

// stand stands for election.
func (r *Raft) stand() []api.Msg {
	r.clock = 0
	r.term, r.vote = r.term+1, r.id
	r.role, r.leader = api.RoleCandidate, api.NoNode
	clear(r.votes[:])
	sent := r.toOthers(r.sendVote)
	return append(sent, r.count(r.id)...)
}

// count counts the vote of a node, and leads, if it has a majority.
func (r *Raft) count(node int) []api.Msg {
	r.votes[node] = true
	if r.majority(func(node int) bool { return r.votes[node] }) {
		return r.lead()
	}
	return nil
}

// majority tells whether more than half of the nodes are such.
func (r *Raft) majority(such func(node int) bool) bool {
	n := 0
	for node := range r.nodes {
		if such(node) {
			n++
		}
	}
	return n > r.nodes/2
}

// lead begins to lead.
func (r *Raft) lead() []api.Msg {
	r.role, r.leader = api.RoleLeader, r.id
	last := r.log.last()
	for node := range r.peers {
		r.peers[node] = peer{next: last + 1}
	}
	r.own().match = last
	if !r.log.full() {
		r.add(api.Entry{Term: r.term, Kind: api.EntryNoop})
	}
	sent := r.call()
	r.look()
	return sent
}

// own answers what it knows of itself.
func (r *Raft) own() *peer { return &r.peers[r.id] }

// add appends e to the log of a leader.
func (r *Raft) add(e api.Entry) {
	r.log.put(r.log.last(), e)
	r.note(r.log.last())
	r.own().match = r.log.last()
}

// look commits what a majority has, if it is of this term.
func (r *Raft) look() {
	var matches [api.MaxNodes]int
	for node, p := range r.peers[:r.nodes] {
		matches[node] = p.match
	}
	slices.Sort(matches[:r.nodes])
	i := matches[(r.nodes-1)/2]
	// Terms do not fall: if the last entry that a majority has is of an older term, so are all ahead of it.
	if term, _ := r.log.termAt(i); term == r.term {
		r.commit = max(r.commit, i)
	}
}

// call sends to each other node.
func (r *Raft) call() []api.Msg { return r.toOthers(r.send) }

// toOthers answers what send sends to each other node.
func (r *Raft) toOthers(send func(node int) []api.Msg) []api.Msg {
	var sent []api.Msg
	for node := range r.nodes {
		if node != r.id {
			sent = append(sent, send(node)...)
		}
	}
	return sent
}

// sendVote asks a node for its vote.
func (r *Raft) sendVote(node int) []api.Msg {
	m := r.message(api.MsgVote, node)
	m.Index, m.LogTerm = r.log.last(), r.log.lastTerm()
	return []api.Msg{m}
}

// send sends a node the entries that it is sent next, or the snapshot, if these are not in the log any more.
func (r *Raft) send(node int) []api.Msg {
	next := r.peers[node].next
	if next < r.log.first {
		return r.sendSnap(node)
	}
	m := r.message(api.MsgAppend, node)
	m.Index, m.Commit, m.Round = next-1, r.commit, r.own().round
	m.LogTerm, _ = r.log.termAt(m.Index)
	m.Entries = r.log.from(next, api.MaxSend)
	return []api.Msg{m}
}

// sendSnap sends a node the snapshot, if there is one.
func (r *Raft) sendSnap(node int) []api.Msg {
	if len(r.snap) == 0 {
		return nil
	}
	m := r.message(api.MsgSnap, node)
	m.Index, m.LogTerm = r.log.first-1, r.log.base
	m.Snap = slices.Clone(r.snap)
	return []api.Msg{m}
}

// onAppended notes what a node has, and sends it what it has not.
func (r *Raft) onAppended(m api.Msg) []api.Msg {
	if r.role != api.RoleLeader || m.Term != r.term {
		return nil
	}
	p := &r.peers[m.From]
	p.round = max(p.round, m.Round)
	switch {
	case !m.Ok:
		p.next = max(min(p.next-1, m.Index+1), p.match+1)
		return r.send(m.From)
	case m.Index > r.log.last():
		return nil
	}
	p.match, p.next = max(p.match, m.Index), max(p.next, m.Index+1)
	r.look()
	if p.next > r.log.last() {
		return nil
	}
	return r.send(m.From)
}
