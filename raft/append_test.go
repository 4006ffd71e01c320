package raft_test

import (
	"fmt"
	"slices"
	"testing"

	"tributary/api"
	"tributary/raft"
)

// P23.1: MsgAppend to a follower.

// tens answers entries of these terms that are others than those of log.
func tens(terms ...int) []api.Entry {
	var l []api.Entry
	for i, term := range terms {
		l = append(l, of(term, 10*(i+1)))
	}
	return l
}

// appends are messages from node 1 in term 5, to the log of which the terms stand behind first and base; the answer says ok, or not, and an index.
var appends = []struct {
	what                string
	first, base, commit int
	terms               []int
	index, logTerm, to  int // to: the message's Commit
	l                   []api.Entry
	ok                  bool
	answer              int
	// behind are the entries, and wanted the commit, behind it; changed what Changed says.
	behind  []api.Entry
	wanted  int
	changed int
}{
	{"nothing, to nothing", 1, 0, 0, nil, 0, 0, 0, nil, true, 0, nil, 0, 0},
	{"nothing, behind all", 1, 0, 0, []int{1, 2}, 2, 2, 0, nil, true, 2, log(1, 2), 0, 0},
	{"nothing, in the middle", 1, 0, 0, []int{1, 2}, 1, 1, 2, nil, true, 1, log(1, 2), 1, 0},
	{"nothing, at the beginning", 1, 0, 0, []int{1, 2}, 0, 0, 2, nil, true, 0, log(1, 2), 0, 0},
	{"entries to an empty log", 1, 0, 0, nil, 0, 0, 0, tens(1, 3), true, 2, tens(1, 3), 0, 1},
	{"entries behind all", 1, 0, 0, []int{1, 2}, 2, 2, 0, tens(2, 5), true, 4, append(log(1, 2), tens(2, 5)...), 0, 3},
	{"entries that are there", 1, 0, 0, []int{1, 2, 2}, 0, 0, 0, tens(1, 2), true, 2, log(1, 2, 2), 0, 0},
	{"all entries that are there", 1, 0, 0, []int{1, 2, 2}, 0, 0, 0, tens(1, 2, 2), true, 3, log(1, 2, 2), 0, 0},
	{"entries of which some are there", 1, 0, 0, []int{1, 2}, 1, 1, 0, tens(2, 2, 3), true, 4, append(log(1, 2), tens(2, 2, 3)[1:]...), 0, 3},
	{"entries that clash", 1, 0, 0, []int{1, 2, 2}, 1, 1, 0, tens(3), true, 2, append(log(1), tens(3)...), 0, 2},
	{"entries that clash later", 1, 0, 0, []int{1, 2, 2, 2}, 0, 0, 0, tens(1, 2, 4, 4), true, 4, append(log(1, 2), tens(1, 2, 4, 4)[2:]...), 0, 3},
	{"entries that clash at the first one", 1, 0, 0, []int{1, 2, 2}, 0, 0, 0, tens(5), true, 1, tens(5), 0, 1},
	{"entries that clash behind the commit", 1, 0, 2, []int{1, 2, 2}, 2, 2, 9, tens(3, 3), true, 4, append(log(1, 2), tens(3, 3)...), 4, 3},
	{"an older term that clashes with a newer one", 1, 0, 1, []int{1, 4, 4}, 1, 1, 0, tens(2, 3), true, 3, append(log(1), tens(2, 3)...), 1, 2},

	{"behind a hole", 1, 0, 0, []int{1, 2}, 3, 2, 3, tens(2), false, 2, log(1, 2), 0, 0},
	{"far behind a hole", 1, 0, 0, nil, mostTerm, 0, mostTerm, nil, false, 0, nil, 0, 0},
	{"behind another term", 1, 0, 0, []int{1, 2, 3, 3, 3}, 5, 4, 9, tens(4), false, 2, log(1, 2, 3, 3, 3), 0, 0},
	{"behind another term that is the first one", 1, 0, 0, []int{3, 3, 3}, 3, 4, 9, tens(4), false, 0, log(3, 3, 3), 0, 0},
	{"behind another term, above the commit", 1, 0, 2, []int{3, 3, 3, 3}, 4, 4, 9, tens(4), false, 2, log(3, 3, 3, 3), 2, 0},
	{"behind another term just above the commit", 1, 0, 3, []int{3, 3, 3, 3}, 4, 4, 9, tens(4), false, 3, log(3, 3, 3, 3), 3, 0},
	{"behind another term at the commit", 1, 0, 3, []int{1, 2, 3, 3}, 3, 4, 9, tens(4), false, 3, log(1, 2, 3, 3), 3, 0},
	{"behind another term below the commit", 1, 0, 3, []int{1, 2, 3, 3}, 1, 4, 9, tens(4), false, 3, log(1, 2, 3, 3), 3, 0},
	{"behind an older term", 1, 0, 0, []int{1, 4, 4}, 3, 3, 9, nil, false, 1, log(1, 4, 4), 0, 0},
	{"behind another base", 7, 3, 6, []int{3, 4}, 6, 2, 9, tens(4), false, 6, log(3, 4), 6, 0},
	{"behind another base without entries", 7, 3, 6, nil, 6, 4, 9, tens(4), false, 6, nil, 6, 0},
	{"behind another term, down to the base", 7, 3, 6, []int{4, 4}, 8, 5, 9, nil, false, 6, log(4, 4), 6, 0},
	{"behind another term, with the base's", 7, 3, 6, []int{3, 3}, 8, 5, 9, nil, false, 6, log(3, 3), 6, 0},
	{"behind no term", 1, 0, 0, []int{1}, 1, 0, 9, nil, false, 0, log(1), 0, 0},

	{"at the base", 7, 3, 6, nil, 6, 3, 9, tens(3, 4), true, 8, tens(3, 4), 8, 7},
	{"at the base, what is there", 7, 3, 6, []int{3, 4}, 6, 3, 6, tens(3), true, 7, log(3, 4), 6, 0},
	{"at the base, what clashes", 7, 3, 6, []int{3, 4}, 6, 3, 6, tens(4), true, 7, tens(4), 6, 7},
	{"ahead of the base, nothing", 7, 3, 6, []int{4}, 4, 1, 9, nil, true, 4, log(4), 6, 0},
	{"far ahead of the base, nothing", 7, 3, 6, []int{4}, 0, 0, 9, nil, true, 0, log(4), 6, 0},
	{"just ahead of the base, nothing", 7, 3, 6, []int{4}, 5, 1, 9, nil, true, 5, log(4), 6, 0},
	{"ahead of the base, too few", 7, 3, 6, []int{4}, 2, 1, 9, tens(1, 2, 3), true, 5, log(4), 6, 0},
	{"ahead of the base, up to it", 7, 3, 6, []int{4}, 3, 1, 9, tens(1, 2, 5), true, 6, log(4), 6, 0},
	{"ahead of the base, what is there", 7, 3, 6, []int{4, 4}, 4, 1, 7, tens(1, 3, 4), true, 7, log(4, 4), 7, 0},
	{"ahead of the base, and behind all", 7, 3, 6, []int{4}, 4, 2, 6, tens(2, 3, 4, 5), true, 8, append(log(4), tens(0, 0, 0, 5)[3:]...), 6, 8},
	{"ahead of the base, without entries", 7, 3, 6, nil, 4, 2, 9, tens(2, 3, 3, 4), true, 8, tens(2, 3, 3, 4)[2:], 8, 7},
	{"ahead of the base, what clashes", 7, 3, 6, []int{3, 4}, 5, 2, 6, tens(3, 4), true, 7, tens(3, 4)[1:], 6, 7},

	{"a commit of some", 1, 0, 0, nil, 0, 0, 1, tens(1, 3), true, 2, tens(1, 3), 1, 1},
	{"a commit of all", 1, 0, 0, nil, 0, 0, 2, tens(1, 3), true, 2, tens(1, 3), 2, 1},
	{"a commit of more", 1, 0, 0, nil, 0, 0, 3, tens(1, 3), true, 2, tens(1, 3), 2, 1},
	{"a commit of more than the message shows", 1, 0, 0, []int{1, 2, 3}, 1, 1, 3, tens(2), true, 2, log(1, 2, 3), 2, 0},
	{"a commit of less", 1, 0, 2, []int{1, 2, 3}, 0, 0, 1, nil, true, 0, log(1, 2, 3), 2, 0},
	{"a commit that is there", 1, 0, 2, []int{1, 2, 3}, 3, 3, 2, nil, true, 3, log(1, 2, 3), 2, 0},
}

func TestAppend(t *testing.T) {
	for _, c := range appends {
		s := start(c.first, c.base, c.commit, c.terms...)
		after := s
		after.Entries, after.Commit = c.behind, c.wanted
		for _, round := range []int{0, 7, mostTerm} {
			r := made(t, s)
			m := entries(1, 0, 5, c.index, c.logTerm, c.to, round, c.l...)
			step(t, r, m, appended(0, 1, 5, c.answer, round, c.ok))
			is(t, r, follower, 1, after)
			if r.Changed() != c.changed {
				t.Errorf("%s: Changed() = %d, want %d", c.what, r.Changed(), c.changed)
			}
			// Twice is as once.
			if !c.ok {
				continue
			}
			r.Clean()
			step(t, r, m, appended(0, 1, 5, c.answer, round, true))
			is(t, r, follower, 1, after)
			if r.Changed() != 0 {
				t.Errorf("%s, twice: Changed() = %d", c.what, r.Changed())
			}
		}
		// In a newer term it is the same, but of that term, and nobody has the vote.
		r := made(t, s)
		step(t, r, entries(2, 0, 9, c.index, c.logTerm, c.to, 3, c.l...), appended(0, 2, 9, c.answer, 3, c.ok))
		after.Term, after.Vote = 9, nobody
		is(t, r, follower, 2, after)
		// In an older one it is nothing: that is just told.
		if slices.ContainsFunc(c.l, func(e api.Entry) bool { return e.Term > 4 }) {
			continue
		}
		r = made(t, s)
		step(t, r, entries(1, 0, 4, c.index, c.logTerm, c.to, 3, c.l...), appended(0, 1, 5, 0, 0, false))
		is(t, r, follower, nobody, s)
	}
}

// What no leader can have sent.

func TestAppendDoesNothing(t *testing.T) {
	for _, c := range []struct {
		what           string
		s              api.Start
		index, logTerm int
		l              []api.Entry
	}{
		{"a clash at the commit", start(1, 0, 2, 1, 2, 3), 1, 1, tens(3)},
		{"a clash below the commit", start(1, 0, 3, 1, 2, 3), 0, 0, tens(1, 3)},
		{"a clash with all that is committed", start(1, 0, 3, 1, 2, 3), 0, 0, tens(2, 2, 3)},
		{"a clash at the commit, behind the base", start(7, 1, 7, 2, 3), 6, 1, tens(3)},
		{"a clash at the commit, ahead of the base", start(7, 1, 7, 2, 3), 5, 1, tens(1, 3)},
		{"a term below the base", start(7, 3, 6), 5, 1, tens(1, 2)},
		{"a term below the base that clashes", start(7, 3, 6, 3, 3), 4, 1, tens(1, 1, 2)},
	} {
		for _, term := range []int{5, 6} {
			r := made(t, c.s)
			ticks(t, r, 5)
			step(t, r, entries(1, 0, term, c.index, c.logTerm, 9, 3, c.l...))
			after := c.s
			after.Term = term
			is(t, r, follower, 1, after)
			if r.Changed() != 0 {
				t.Errorf("%s: Changed() = %d", c.what, r.Changed())
			}
		}
	}
}

// Logs that are full, or as good as full.

func TestAppendToAFullLog(t *testing.T) {
	for _, c := range []struct {
		has, sent, last int
	}{
		{1024, 1, 1024}, {1024, 8, 1024}, {1023, 1, 1024}, {1023, 2, 1024}, {1023, 8, 1024}, {1020, 3, 1023}, {1020, 4, 1024}, {1020, 5, 1024}, {1016, 8, 1024},
	} {
		for _, first := range []int{1, 100} {
			s := start(first, 0, first-1)
			s.Entries = long(c.has, 4)
			r := made(t, s)
			l := slices.Repeat(tens(5), c.sent)
			last := first + c.has - 1
			step(t, r, entries(1, 0, 5, last, 4, mostTerm, 2, l...), appended(0, 1, 5, first+c.last-1, 2, true))
			s.Entries = append(s.Entries, l[:c.last-c.has]...)
			s.Commit = first + c.last - 1
			is(t, r, follower, 1, s)
			changed := last + 1
			if c.has == 1024 {
				changed = 0
			}
			if r.Changed() != changed {
				t.Errorf("%d behind %d: Changed() = %d, want %d", c.sent, c.has, r.Changed(), changed)
			}
		}
	}
}

func TestAFullLogIsCut(t *testing.T) {
	s := start(1, 0, 0)
	s.Entries = long(1024, 4)
	r := made(t, s)
	step(t, r, entries(1, 0, 5, 1019, 4, 0, 0, slices.Repeat(tens(5), 8)...), appended(0, 1, 5, 1024, 0, true))
	s.Entries = append(s.Entries[:1019:1019], slices.Repeat(tens(5), 5)...)
	is(t, r, follower, 1, s)
	if r.Changed() != 1020 {
		t.Errorf("Changed() = %d", r.Changed())
	}
}

func TestAFullLogHasWhatIsThere(t *testing.T) {
	s := start(1, 0, 0)
	s.Entries = long(1024, 4)
	r := made(t, s)
	step(t, r, entries(1, 0, 5, 1020, 4, 1022, 0, append(slices.Repeat(tens(4), 4), slices.Repeat(tens(5), 4)...)...), appended(0, 1, 5, 1024, 0, true))
	s.Commit = 1022
	is(t, r, follower, 1, s)
	if r.Changed() != 0 {
		t.Errorf("Changed() = %d", r.Changed())
	}
}

// To a candidate and to a leader.

func TestACandidateFollows(t *testing.T) {
	for _, m := range []api.Msg{entries(1, 0, 6, 1, 1, 0, 3), snapshot(1, 0, 6, 0+1, 1, "b")} {
		r := made(t, start(1, 0, 1, 1))
		for range 10 {
			r.Tick()
		}
		ticks(t, r, 5)
		older := m
		older.Term = 5
		step(t, r, older, appended(0, 1, 6, 0, 0, false))
		is(t, r, candidate, nobody, stood(start(1, 0, 1, 1)))
		step(t, r, m, appended(0, 1, 6, 1, m.Round, true))
		is(t, r, follower, 1, stood(start(1, 0, 1, 1)))
		ticks(t, r, 9)
		is(t, r, follower, 1, stood(start(1, 0, 1, 1)))
		// Votes of that term make no leader any more.
		step(t, r, voted(1, 0, 6, true))
		step(t, r, voted(2, 0, 6, true))
		is(t, r, follower, 1, stood(start(1, 0, 1, 1)))
	}
}

func TestALeaderIsSentEntries(t *testing.T) {
	for _, m := range []api.Msg{entries(1, 0, 6, 1, 1, 0, 3, tens(6)...), entries(1, 0, 6, 9, 1, 0, 3), snapshot(1, 0, 6, 9, 5, "b")} {
		r := elected(t, start(1, 0, 1, 1))
		s := led(start(1, 0, 1, 1))
		step(t, r, m)
		is(t, r, leader, 0, s)
		m.Term = 5
		m.Entries = nil
		step(t, r, m, appended(0, 1, 6, 0, 0, false))
		is(t, r, leader, 0, s)
		m.Term = 7
		l, e := r.Step(m)
		if e != api.OK || len(l) != 1 || r.Role() != follower || r.Leader() != 1 || r.Brief().Term != 7 || r.Brief().Vote != nobody {
			t.Errorf("behind %s: %d, sent is %s; role %d, leader %d, %s", show(m), e, show(l), r.Role(), r.Leader(), show(r.Brief()))
		}
	}
}

// What others say of their logs is looked at by a leader alone.
func TestAFollowerAndACandidateAreAnswered(t *testing.T) {
	stands := made(t, start(1, 0, 0, 1))
	for range 10 {
		stands.Tick()
	}
	for _, r := range []*raft.Raft{made(t, start(1, 0, 0, 1)), stands} {
		s, role := r.State(), r.Role()
		for _, ok := range []bool{false, true} {
			for term := 1; term <= s.Term; term++ {
				step(t, r, appended(1, 0, term, 1, 9, ok))
				step(t, r, appended(2, 0, term, 1, 9, ok))
				is(t, r, role, nobody, s)
			}
		}
		step(t, r, appended(1, 0, 8, 1, 9, true))
		s.Term, s.Vote = 8, nobody
		is(t, r, follower, nobody, s)
	}
}

// P23.3: Changed and Clean.

func TestChanged(t *testing.T) {
	r := made(t, start(1, 0, 0, 1, 1, 1, 1))
	changed := func(want int) {
		t.Helper()
		if r.Changed() != want {
			t.Errorf("Changed() = %d, want %d", r.Changed(), want)
		}
	}
	put := func(index, logTerm int, l ...api.Entry) {
		t.Helper()
		if _, e := r.Step(entries(1, 0, 5, index, logTerm, 0, 0, l...)); e != api.OK {
			t.Error(e)
		}
	}
	changed(0)
	put(4, 1, tens(1)...)
	changed(5)
	put(5, 1, tens(2)...)
	changed(5)
	put(2, 1, tens(3)...)
	changed(3)
	put(3, 3, tens(3)...)
	changed(3)
	r.Clean()
	changed(0)
	put(3, 3, tens(3)...)
	changed(0)
	put(4, 3, tens(3)...)
	changed(5)
	r.Clean()
	r.Clean()
	changed(0)
	if s := r.State(); len(s.Entries) != 5 {
		t.Error("Clean changes the log", show(s))
	}
	leads := elected(t, start(1, 0, 0))
	for i := 2; i < 5; i++ {
		if at, _, e := leads.Propose(of(0, i)); at != i || e != api.OK || leads.Changed() != 2 {
			t.Error(fmt.Sprint("Propose: ", at, e, leads.Changed()))
		}
	}
}
