package raft

import (
	"cmp"
	"slices"

	"tributary/api"
	"tributary/msg"
)

// Step does what a message does, and answers what is sent.
func (r *Raft) Step(m api.Msg) ([]api.Msg, api.Errno) {
	switch {
	case !r.made():
		return nil, api.ErrClosed
	case !r.mayStep(m):
		return nil, api.ErrArg
	}
	if m.Term > r.term {
		r.term, r.vote = m.Term, api.NoNode
		r.role, r.leader = api.RoleFollower, api.NoNode
	}
	return r.deedOf(m.Kind)(m), api.OK
}

// mayStep tells whether m may be, and is from another node of the set to this one.
func (r *Raft) mayStep(m api.Msg) bool {
	return msg.May(m) && m.To == r.id && m.From < r.nodes && rise(m.Entries, m.LogTerm, m.Term) &&
		(m.Kind != api.MsgSnap || within(m.LogTerm, 1, m.Term) && within(m.Index, 1, api.MaxFirst-1))
}

// deedOf answers what does a message of that kind, which there is.
func (r *Raft) deedOf(kind int) func(m api.Msg) []api.Msg {
	switch kind {
	case api.MsgVote:
		return r.onVote
	case api.MsgVoted:
		return r.onVoted
	case api.MsgAppend:
		return r.onAppend
	case api.MsgAppended:
		return r.onAppended
	}
	return r.onSnap
}

// onVote votes for who asks for it, or not.
func (r *Raft) onVote(m api.Msg) []api.Msg {
	answer := r.message(api.MsgVoted, m.From)
	free := r.vote == api.NoNode || r.vote == m.From
	behind := cmp.Or(cmp.Compare(m.LogTerm, r.log.lastTerm()), cmp.Compare(m.Index, r.log.last())) < 0
	if m.Term == r.term && free && !behind {
		r.vote, r.clock, answer.Ok = m.From, 0, true
	}
	return []api.Msg{answer}
}

// onVoted counts a vote.
func (r *Raft) onVoted(m api.Msg) []api.Msg {
	if r.role != api.RoleCandidate || m.Term != r.term || !m.Ok {
		return nil
	}
	return r.count(m.From)
}

// onAppend takes entries, if they go on where the log has what the leader has.
func (r *Raft) onAppend(m api.Msg) []api.Msg {
	return r.called(m, r.extend)
}

// onSnap takes a snapshot, if the log does not go as far.
func (r *Raft) onSnap(m api.Msg) []api.Msg {
	return r.called(m, r.restore)
}

// called follows the leader that sent m, and does what it says, but of an older term.
func (r *Raft) called(m api.Msg, do func(m api.Msg) []api.Msg) []api.Msg {
	switch {
	case m.Term < r.term:
		return r.appended(m.From, 0, 0, false)
	case r.role == api.RoleLeader:
		return nil
	}
	r.role, r.leader, r.clock = api.RoleFollower, m.From, 0
	return do(m)
}

// appended answers the message that tells a leader up to which index it is right, or, if not ok, where to look.
func (r *Raft) appended(to, index, round int, ok bool) []api.Msg {
	m := r.message(api.MsgAppended, to)
	m.Index, m.Round, m.Ok = index, round, ok
	return []api.Msg{m}
}

// extend takes the entries of m.
func (r *Raft) extend(m api.Msg) []api.Msg {
	// What is up to the one ahead of the first is committed here, too, and needs no look.
	passed := min(max(r.log.first-1-m.Index, 0), len(m.Entries))
	index := m.Index + passed
	term, known := r.log.termAt(index)
	switch {
	case index > r.log.last():
		return r.appended(m.From, r.log.last(), m.Round, false)
	case known && passed == 0 && term != m.LogTerm:
		return r.appended(m.From, r.aheadOf(index), m.Round, false)
	}
	last, ok := r.follow(index, m.Entries[passed:])
	if !ok {
		return nil
	}
	r.commit = max(r.commit, min(m.Commit, last))
	return r.appended(m.From, last, m.Round, true)
}

// aheadOf answers the last index below i whose entry has another term than that at i, but none below the commit.
func (r *Raft) aheadOf(i int) int {
	term, _ := r.log.termAt(i)
	for i--; i > r.commit; i-- {
		if other, _ := r.log.termAt(i); other != term {
			return i
		}
	}
	return r.commit
}

// follow puts the entries more behind index i, but for those that are there, and answers the index of the last of them that is there then; false, if no leader can have sent them: then nothing is done.
func (r *Raft) follow(i int, more []api.Entry) (int, bool) {
	n := r.log.stands(i, more)
	i, more = i+n, more[n:]
	if len(more) == 0 || i == r.log.last() && r.log.full() {
		return i, true
	}
	if ahead, _ := r.log.termAt(i); i < r.commit || more[0].Term < ahead {
		return 0, false
	}
	r.log.put(i, more...)
	r.note(i + 1)
	return min(i+len(more), r.log.last()), true
}

// restore takes the snapshot of m.
func (r *Raft) restore(m api.Msg) []api.Msg {
	term, known := r.log.termAt(m.Index)
	switch {
	case m.Index <= r.commit:
		return r.appended(m.From, r.commit, 0, true)
	case !known || term != m.LogTerm:
		r.log = log{first: m.Index + 1, base: m.LogTerm}
		r.snap, r.took = slices.Clone(m.Snap), slices.Clone(m.Snap)
	}
	r.commit = m.Index
	return r.appended(m.From, m.Index, 0, true)
}

// message answers one to another node, of its term.
func (r *Raft) message(kind, to int) api.Msg {
	return api.Msg{Kind: kind, From: r.id, To: to, Term: r.term}
}
