package raft_test

import (
	"testing"

	"tributary/api"
	"tributary/raft"
)

// P23.1: ticks, elections, votes.

// others answers what a node sends to each other one, in order.
func others(s api.Start, to func(node int) api.Msg) []api.Msg {
	var l []api.Msg
	for node := range s.Nodes {
		if node != s.Id {
			l = append(l, to(node))
		}
	}
	return l
}

// stood is a start as it is behind standing for election.
func stood(s api.Start) api.Start {
	s.Term, s.Vote = s.Term+1, s.Id
	return s
}

// led is a start as it is behind standing for election, and a noop.
func led(s api.Start) api.Start {
	s = stood(s)
	s.Entries = append(s.Entries[:len(s.Entries):len(s.Entries)], noop(s.Term))
	return s
}

func TestOneNode(t *testing.T) {
	// Example 1.
	s := api.Start{Nodes: 1, Vote: nobody, First: 1}
	r := made(t, s)
	ticks(t, r, 9)
	is(t, r, follower, nobody, s)
	ticks(t, r, 1)
	s = led(s)
	s.Commit = 1
	is(t, r, leader, 0, s)
	if !r.Sure(0) || r.Sure(1) {
		t.Error("of round 0 alone it is sure")
	}
	ticks(t, r, 100)
	is(t, r, leader, 0, s)
}

func TestTheWaitForALeader(t *testing.T) {
	for nodes := 2; nodes <= 7; nodes++ {
		for id := range nodes {
			s := api.Start{Id: id, Nodes: nodes, Term: 3, Vote: (id + 1) % nodes, First: 4, Base: 1, Entries: log(1, 2), Commit: 4}
			r := made(t, s)
			for range 3 {
				ticks(t, r, patience(id)-1)
				role := follower
				if s.Vote == id {
					role = candidate
				}
				is(t, r, role, nobody, s)
				s = stood(s)
				sends(t, "the last tick", r.Tick(), others(s, func(node int) api.Msg { return vote(id, node, s.Term, 5, 2) })...)
				is(t, r, candidate, nobody, s)
			}
		}
	}
}

func TestAVoteTellsTheLastEntry(t *testing.T) {
	for _, c := range []struct {
		s           api.Start
		index, term int
	}{
		{start(1, 0, 0), 0, 0}, {start(1, 0, 0, 1), 1, 1}, {start(7, 4, 6), 6, 4}, {start(7, 4, 6, 4, 5), 8, 5},
	} {
		r := made(t, c.s)
		ticks(t, r, 9)
		sends(t, "the last tick", r.Tick(), vote(0, 1, 6, c.index, c.term), vote(0, 2, 6, c.index, c.term))
	}
}

func TestTheLastTermHasNoElection(t *testing.T) {
	s := start(1, 0, 0)
	s.Term = mostTerm - 1
	r := made(t, s)
	ticks(t, r, 9)
	s = stood(s)
	sends(t, "the last tick", r.Tick(), vote(0, 1, mostTerm, 0, 0), vote(0, 2, mostTerm, 0, 0))
	ticks(t, r, 100)
	is(t, r, candidate, nobody, s)
	alone := api.Start{Nodes: 1, Term: mostTerm, Vote: nobody, First: 1}
	r = made(t, alone)
	ticks(t, r, 100)
	is(t, r, follower, nobody, alone)
}

func TestVotesMakeALeader(t *testing.T) {
	for nodes := 2; nodes <= 7; nodes++ {
		for id := range nodes {
			s := api.Start{Id: id, Nodes: nodes, Term: 3, Vote: nobody, First: 4, Base: 1, Entries: log(1, 2), Commit: 4}
			r := made(t, s)
			for range patience(id) {
				r.Tick()
			}
			s, got := stood(s), 1
			for node := range nodes {
				if node == id {
					continue
				}
				// These are no votes, or of older terms; and each node has one.
				step(t, r, voted(node, id, s.Term, false))
				step(t, r, voted(node, id, s.Term-1, true))
				is(t, r, candidate, nobody, s)
				if got++; got > nodes/2 {
					s.Entries = append(s.Entries, noop(4))
					step(t, r, voted(node, id, 4, true), others(s, func(node int) api.Msg { return entries(id, node, 4, 5, 2, 4, 0, noop(4)) })...)
					is(t, r, leader, id, s)
					if r.Changed() != 6 {
						t.Errorf("Changed() = %d", r.Changed())
					}
					step(t, r, voted(node, id, 4, true))
					is(t, r, leader, id, s)
					break
				}
				step(t, r, voted(node, id, 4, true))
				step(t, r, voted(node, id, 4, true))
			}
		}
	}
}

func TestEachElectionCountsAnew(t *testing.T) {
	s := api.Start{Nodes: 5, Vote: nobody, First: 1}
	r := made(t, s)
	for range 10 {
		r.Tick()
	}
	step(t, r, voted(1, 0, 1, true))
	for range 10 {
		r.Tick()
	}
	step(t, r, voted(2, 0, 2, true))
	is(t, r, candidate, nobody, stood(stood(s)))
	step(t, r, voted(3, 0, 1, true))
	is(t, r, candidate, nobody, stood(stood(s)))
	l, _ := r.Step(voted(3, 0, 2, true))
	if r.Role() != leader || len(l) != 4 {
		t.Errorf("behind 3 votes of 5 its role is %d, and sends %s", r.Role(), show(l))
	}
}

func TestALeaderCalls(t *testing.T) {
	r := elected(t, start(1, 0, 1, 1, 2))
	call := []api.Msg{entries(0, 1, 6, 2, 2, 1, 0, noop(6)), entries(0, 2, 6, 2, 2, 1, 0, noop(6))}
	for range 5 {
		ticks(t, r, 2)
		sends(t, "tick 3", r.Tick(), call...)
	}
	// What another one answers does not make it wait longer.
	ticks(t, r, 1)
	step(t, r, appended(1, 0, 6, 3, 0, true))
	ticks(t, r, 1)
	sends(t, "tick 3", r.Tick(), entries(0, 1, 6, 3, 6, 3, 0), entries(0, 2, 6, 2, 2, 3, 0, noop(6)))
}

func TestALeaderThatWasElectedLateCallsAtOnce(t *testing.T) {
	for late := range 10 {
		r := made(t, start(1, 0, 0))
		for range 10 + late {
			r.Tick()
		}
		r.Step(voted(1, 0, 6, true))
		quiet := max(0, 2-late)
		ticks(t, r, quiet)
		if l := r.Tick(); len(l) != 2 {
			t.Errorf("%d ticks behind standing for election: a leader sends %s", late, show(l))
		}
		ticks(t, r, 2)
		if l := r.Tick(); len(l) != 2 {
			t.Errorf("it sends %s", show(l))
		}
	}
}

// What sets the clock back, and what does not.

func TestTheClock(t *testing.T) {
	for _, c := range []struct {
		what string
		m    api.Msg
		back bool
	}{
		{"a vote that is given", vote(1, 0, 5, 2, 2), true},
		{"a vote that is given in a newer term", vote(1, 0, 6, 2, 2), true},
		{"a vote that is not given", vote(1, 0, 5, 1, 2), false},
		{"a vote that is not given in a newer term", vote(1, 0, 6, 1, 2), false},
		{"a vote of an older term", vote(1, 0, 4, 2, 2), false},
		{"entries", entries(1, 0, 5, 2, 2, 0, 0), true},
		{"entries of a newer term", entries(1, 0, 6, 2, 2, 0, 0), true},
		{"entries that do not go on", entries(1, 0, 5, 9, 2, 0, 0), true},
		{"entries of an older term", entries(1, 0, 4, 2, 2, 0, 0), false},
		{"a snapshot", snapshot(1, 0, 5, 9, 2, "b"), true},
		{"a snapshot that is there", snapshot(1, 0, 5, 1, 1, "b"), true},
		{"a snapshot of an older term", snapshot(1, 0, 4, 9, 2, "b"), false},
		{"somebody's vote", voted(1, 0, 5, true), false},
		{"a newer term", voted(1, 0, 6, true), false},
		{"an answer", appended(1, 0, 5, 1, 0, true), false},
		{"an answer of a newer term", appended(1, 0, 6, 1, 0, true), false},
	} {
		r := made(t, start(1, 0, 1, 1, 2))
		ticks(t, r, 9)
		if _, e := r.Step(c.m); e != api.OK {
			t.Errorf("%s: %d", c.what, e)
		}
		if c.back {
			ticks(t, r, 9)
		}
		if l := r.Tick(); len(l) != 2 || r.Role() != candidate {
			t.Errorf("behind %s its role is %d, and it sends %s", c.what, r.Role(), show(l))
		}
	}
}

// MsgVote.

func TestVotes(t *testing.T) {
	for _, c := range []struct {
		what           string
		vote           int
		from           int
		index, logTerm int
		ok             bool
	}{
		{"the same log", nobody, 1, 3, 2, true},
		{"the same log, asked again", 1, 1, 3, 2, true},
		{"another one has the vote", 2, 1, 3, 2, false},
		{"it has its own vote", 0, 1, 3, 2, false},
		{"a longer log", nobody, 1, 4, 2, true},
		{"a shorter log", nobody, 1, 2, 2, false},
		{"a shorter log, asked again", 1, 1, 2, 2, false},
		{"a shorter log of a newer term", nobody, 1, 1, 3, true},
		{"an empty log of a newer term", nobody, 2, 0, 3, true},
		{"a longer log of an older term", nobody, 1, 9, 1, false},
		{"the longest log of no term", nobody, 1, mostTerm, 0, false},
		{"a log of a term above its own", nobody, 1, 0, mostTerm, true},
	} {
		s := start(2, 1, 1, 1, 2)
		s.Vote = c.vote
		r := made(t, s)
		step(t, r, vote(c.from, 0, 5, c.index, c.logTerm), voted(0, c.from, 5, c.ok))
		after := s
		if c.ok {
			after.Vote = c.from
		}
		is(t, r, follower, nobody, after)
		// In a newer term nobody has its vote yet; in an older one nobody gets it.
		r = made(t, s)
		newer := c.ok || c.vote != nobody && c.index == 3 && c.logTerm == 2
		step(t, r, vote(c.from, 0, 9, c.index, c.logTerm), voted(0, c.from, 9, newer))
		after = s
		after.Term, after.Vote = 9, nobody
		if newer {
			after.Vote = c.from
		}
		is(t, r, follower, nobody, after)
		r = made(t, s)
		step(t, r, vote(c.from, 0, 4, c.index, c.logTerm), voted(0, c.from, 5, false))
		is(t, r, follower, nobody, s)
	}
}

func TestVotesOfLogsWithoutEntries(t *testing.T) {
	for _, c := range []struct {
		s              api.Start
		index, logTerm int
		ok             bool
	}{
		{start(1, 0, 0), 0, 0, true}, {start(1, 0, 0), 1, 0, true},
		{start(7, 3, 6), 6, 3, true}, {start(7, 3, 6), 5, 3, false}, {start(7, 3, 6), 7, 2, false}, {start(7, 3, 6), 0, 4, true}, {start(7, 3, 6), 0, 0, false},
	} {
		r := made(t, c.s)
		step(t, r, vote(2, 0, 5, c.index, c.logTerm), voted(0, 2, 5, c.ok))
	}
}

func TestACandidateAndALeaderVote(t *testing.T) {
	for _, role := range []int{candidate, leader} {
		node := func() *raft.Raft {
			if role == leader {
				return elected(t, start(1, 0, 0, 1))
			}
			r := made(t, start(1, 0, 0, 1))
			for range 10 {
				r.Tick()
			}
			return r
		}
		r := node()
		s, leads := r.State(), r.Leader()
		for term := 1; term <= 6; term++ {
			step(t, r, vote(1, 0, term, 9, 9), voted(0, 1, 6, false))
			is(t, r, role, leads, s)
		}
		step(t, r, vote(1, 0, 7, 9, 9), voted(0, 1, 7, true))
		s.Term, s.Vote = 7, 1
		is(t, r, follower, nobody, s)
		r = node()
		step(t, r, vote(1, 0, 7, 0, 0), voted(0, 1, 7, false))
		s.Vote = nobody
		is(t, r, follower, nobody, s)
	}
}

// MsgVoted.

func TestOthersDoNotCountVotes(t *testing.T) {
	r := made(t, start(1, 0, 0, 1))
	for term := 1; term <= 5; term++ {
		step(t, r, voted(1, 0, term, true))
		step(t, r, voted(2, 0, term, true))
		is(t, r, follower, nobody, start(1, 0, 0, 1))
	}
	// A vote of a newer term is nobody's: it stood for no election then.
	for _, ok := range []bool{false, true} {
		r = elected(t, start(1, 0, 0, 1))
		s := r.State()
		step(t, r, voted(1, 0, 7, ok))
		s.Term, s.Vote = 7, nobody
		is(t, r, follower, nobody, s)
	}
}

func TestAFullLogHasNoNoop(t *testing.T) {
	s := start(1, 0, 0)
	s.Entries = long(1023, 5)
	r := elected(t, s)
	is(t, r, leader, 0, led(s))
	s.Entries = long(1024, 5)
	r = made(t, s)
	for range 10 {
		r.Tick()
	}
	step(t, r, voted(2, 0, 6, true), entries(0, 1, 6, 1024, 5, 0, 0), entries(0, 2, 6, 1024, 5, 0, 0))
	is(t, r, leader, 0, stood(s))
	if r.Changed() != 0 {
		t.Errorf("Changed() = %d", r.Changed())
	}
	// What is of an older term is not committed, as nothing of its own comes behind it.
	step(t, r, appended(1, 0, 6, 1024, 0, true))
	is(t, r, leader, 0, stood(s))
	if r.Sure(0) {
		t.Error("it is sure without an entry of its own")
	}
	one := api.Start{Nodes: 1, Term: 5, Vote: nobody, First: 1, Entries: long(1024, 5)}
	r = elected(t, one)
	is(t, r, leader, 0, stood(one))
}

// P23.1: what Step refuses, and that nothing changes then.

func TestStepRefuses(t *testing.T) {
	snap := func(change func(m *api.Msg)) api.Msg {
		m := snapshot(1, 0, 9, 9, 5, "b")
		change(&m)
		return m
	}
	for what, m := range map[string]api.Msg{
		"{}": {}, "a kind that is none": {Kind: 6, From: 1, Term: 9}, "Term 0": vote(1, 0, 0, 0, 0), "Term above MaxTerm": vote(1, 0, mostTerm+1, 0, 0), "a field that is not its kind's": {Kind: api.MsgVoted, From: 1, Term: 9, Index: 1},
		"Index -1": vote(1, 0, 9, -1, 0), "too many entries": entries(1, 0, 9, 0, 0, 0, 0, long(9, 1)...), "an entry that may not be": entries(1, 0, 9, 0, 0, 0, 0, api.Entry{}),
		"to another node": vote(1, 2, 9, 0, 0), "to none of the nodes": vote(1, 3, 9, 0, 0), "from itself": vote(0, 0, 9, 0, 0), "from none of the nodes": vote(3, 0, 9, 0, 0), "from node 6": voted(6, 0, 9, true),
		"Terms that fall": entries(1, 0, 9, 0, 0, 0, 0, log(2, 1)...), "Terms that fall at the end": entries(1, 0, 9, 0, 0, 0, 0, log(2, 2, 3, 3, 3, 3, 4, 3)...), "a Term below LogTerm": entries(1, 0, 9, 2, 3, 0, 0, log(2, 3)...), "a Term above the message's": entries(1, 0, 9, 0, 0, 0, 0, log(2, 10)...),
		"a snapshot of no term": snap(func(m *api.Msg) { m.LogTerm = 0 }), "a snapshot of a Term above the message's": snap(func(m *api.Msg) { m.LogTerm = 10 }), "a snapshot of nothing": snap(func(m *api.Msg) { m.Index = 0 }), "a snapshot of too many": snap(func(m *api.Msg) { m.Index = mostFirst }), "an empty snapshot": snap(func(m *api.Msg) { m.Snap = nil }), "too long a snapshot": snap(func(m *api.Msg) { m.Snap = make([]byte, 1<<16+1) }),
	} {
		for _, r := range []*raft.Raft{made(t, start(1, 0, 1, 1, 2)), elected(t, start(1, 0, 1, 1, 2))} {
			s, role, leads := r.State(), r.Role(), r.Leader()
			if l, e := r.Step(m); len(l) != 0 || e != api.ErrArg {
				t.Errorf("Step of %s: %s, %d, want ErrArg", what, show(l), e)
			}
			is(t, r, role, leads, s)
		}
	}
}

func TestStepTakesWhatIsAtItsBounds(t *testing.T) {
	for _, m := range []api.Msg{
		vote(1, 0, mostTerm, mostTerm, mostTerm), entries(1, 0, 9, mostTerm, mostTerm, mostTerm, mostTerm), entries(1, 0, 9, 0, 0, 0, 0, log(0, 0, 1, 9, 9)...), entries(2, 0, 9, 2, 9, 0, 0, log(9)...),
		appended(2, 0, 9, mostTerm, mostTerm, true), snapshot(1, 0, 9, 1, 1, "b"), snapshot(1, 0, 9, mostFirst-1, 9, "b"), snapshot(1, 0, 9, 9, 9, string(make([]byte, 1<<16))),
	} {
		r := made(t, start(1, 0, 0, 1))
		if _, e := r.Step(m); e != api.OK {
			t.Errorf("Step(%s): %d", show(m), e)
		}
		if s := r.Brief(); s.Term != m.Term {
			t.Errorf("behind %s it is in term %d", show(m), s.Term)
		}
	}
}
