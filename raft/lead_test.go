package raft_test

import (
	"math"
	"slices"
	"testing"

	"tributary/api"
	"tributary/sample"
)

// P23.1, P23.2: what a leader sends, what is committed, Propose, Begin, Sure.

func TestALeaderLooksForWhereTheLogsPart(t *testing.T) {
	// Its log has 4 entries; node 1 answers that it is not right with what it was sent.
	for _, c := range []struct {
		index, next int
	}{
		{9, 3}, {3, 3}, {2, 3}, {1, 2}, {0, 1}, {mostTerm, 3},
	} {
		r := elected(t, start(1, 0, 0, 1, 1, 5))
		l := append(log(1, 1, 5), noop(6))
		step(t, r, appended(1, 0, 6, c.index, 0, false), entries(0, 1, 6, c.next-1, []int{0, 1, 1, 5}[c.next-1], 0, 0, l[c.next-1:]...))
	}
	// Time and again it goes back, but not behind what is the same.
	r := elected(t, start(1, 0, 0, 1, 1, 5))
	r.Step(appended(1, 0, 6, 1, 0, true))
	for range 5 {
		r.Step(appended(1, 0, 6, 9, 0, false))
	}
	step(t, r, appended(1, 0, 6, 0, 0, false), entries(0, 1, 6, 1, 1, 0, 0, append(log(1, 1, 5)[1:], noop(6))...))
	// An answer that came late does not take back what is the same.
	step(t, r, appended(1, 0, 6, 3, 0, true), entries(0, 1, 6, 3, 5, 0, 0, noop(6)))
	step(t, r, appended(1, 0, 6, 1, 0, true), entries(0, 1, 6, 3, 5, 0, 0, noop(6)))
	step(t, r, appended(1, 0, 6, 0, 0, false), entries(0, 1, 6, 3, 5, 0, 0, noop(6)))
}

func TestALeaderSendsEightEntries(t *testing.T) {
	s := start(1, 0, 0)
	s.Entries = long(20, 5)
	r := elected(t, s)
	step(t, r, appended(1, 0, 6, 0, 0, false), entries(0, 1, 6, 0, 0, 0, 0, long(20, 5)[:8]...))
	step(t, r, appended(1, 0, 6, 8, 0, true), entries(0, 1, 6, 8, 5, 0, 0, long(20, 5)[8:16]...))
	step(t, r, appended(1, 0, 6, 16, 0, true), entries(0, 1, 6, 16, 5, 0, 0, append(long(20, 5)[16:], noop(6))...))
	step(t, r, appended(1, 0, 6, 21, 0, true))
	if s := r.Brief(); s.Commit != 21 {
		t.Errorf("its commit is %d", s.Commit)
	}
}

func TestWhoSaysMoreThanThereIsIsNotBelieved(t *testing.T) {
	r := elected(t, start(1, 0, 0, 1))
	step(t, r, appended(1, 0, 6, 3, 0, true))
	step(t, r, appended(2, 0, 6, mostTerm, 9, true))
	is(t, r, leader, 0, led(start(1, 0, 0, 1)))
	sends(t, "Tick", tick3(r), entries(0, 1, 6, 1, 1, 0, 0, noop(6)), entries(0, 2, 6, 1, 1, 0, 0, noop(6)))
	// But the round is answered.
	step(t, r, appended(2, 0, 6, 2, 0, true))
	if !r.Sure(0) || r.Sure(9) {
		t.Error("of round 0 alone it is sure, as it began no other")
	}
}

// What is committed.

func TestAMajorityCommits(t *testing.T) {
	for nodes := 1; nodes <= 7; nodes++ {
		s := api.Start{Nodes: nodes, Term: 5, Vote: nobody, First: 1, Entries: log(1, 1)}
		r := elected(t, s)
		s = led(s)
		for node := 1; node <= nodes/2; node++ {
			is(t, r, leader, 0, s)
			if r.Sure(0) {
				t.Errorf("%d of %d: it is sure, and nothing is committed", node, nodes)
			}
			// What a node has in part is not what is asked for.
			r.Step(appended(node, 0, 6, 2, 0, true))
			is(t, r, leader, 0, s)
			r.Step(appended(node, 0, 6, 3, 0, true))
		}
		s.Commit = 3
		is(t, r, leader, 0, s)
		if !r.Sure(0) {
			t.Errorf("of %d nodes a majority has all, but it is not sure", nodes)
		}
	}
}

func TestOlderTermsAreCommittedByNewerOnesAlone(t *testing.T) {
	r := elected(t, start(1, 0, 0, 1, 2, 5, 5))
	s := led(start(1, 0, 0, 1, 2, 5, 5))
	for i := range 5 {
		r.Step(appended(1, 0, 6, i, 0, true))
		is(t, r, leader, 0, s)
	}
	r.Step(appended(1, 0, 6, 5, 0, true))
	s.Commit = 5
	is(t, r, leader, 0, s)
	// What others say later, and of less, changes nothing.
	r.Step(appended(2, 0, 6, 3, 0, true))
	r.Step(appended(2, 0, 6, 0, 0, false))
	is(t, r, leader, 0, s)
}

func TestTheGreatestThatAMajorityHasIsCommitted(t *testing.T) {
	for _, c := range []struct {
		matches []int
		commit  int
	}{
		{[]int{0, 0, 0, 0}, 0}, {[]int{9, 0, 0, 0}, 0}, {[]int{9, 3, 0, 0}, 3}, {[]int{0, 3, 9, 0}, 3}, {[]int{4, 3, 5, 2}, 4}, {[]int{9, 9, 9, 9}, 9}, {[]int{1, 1, 1, 9}, 0}, {[]int{2, 1, 1, 9}, 2},
	} {
		r := elected(t, api.Start{Nodes: 5, Term: 5, Vote: nobody, First: 1, Entries: log(1)})
		for i := 3; i <= 9; i++ {
			r.Propose(of(0, i))
		}
		for node, i := range c.matches {
			r.Step(appended(node+1, 0, 6, i, 0, true))
		}
		if s := r.Brief(); s.Commit != c.commit {
			t.Errorf("of %v %d are committed, want %d", c.matches, s.Commit, c.commit)
		}
	}
}

func TestAnAnswerShowsWhatIsCommitted(t *testing.T) {
	r := elected(t, start(1, 0, 0, 1))
	r.Propose(of(0, 1))
	step(t, r, appended(1, 0, 6, 2, 0, true), entries(0, 1, 6, 2, 6, 2, 0, of(6, 1)))
	step(t, r, appended(2, 0, 6, 1, 0, true), entries(0, 2, 6, 1, 1, 2, 0, noop(6), of(6, 1)))
	step(t, r, appended(1, 0, 6, 3, 0, true))
	step(t, r, appended(2, 0, 6, 2, 0, true), entries(0, 2, 6, 2, 6, 3, 0, of(6, 1)))
	// Of an older term, or a newer one, nothing is committed.
	r = elected(t, start(1, 0, 0, 1))
	step(t, r, appended(1, 0, 5, 2, 0, true))
	is(t, r, leader, 0, led(start(1, 0, 0, 1)))
	step(t, r, appended(1, 0, 7, 2, 0, true))
	s := led(start(1, 0, 0, 1))
	s.Term, s.Vote = 7, nobody
	is(t, r, follower, nobody, s)
}

// Propose.

func TestPropose(t *testing.T) {
	r := elected(t, start(1, 0, 0, 1))
	s := led(start(1, 0, 0, 1))
	for i, e := range []api.Entry{of(0, 1), of(mostTerm, 2), sample.By(sample.Insert("c", sample.Item(sample.Number(1))), 3, 9, 9), sample.DropAll("c")} {
		at, l, no := r.Propose(e)
		e.Term = 6
		s.Entries = append(s.Entries, e)
		want(t, "Propose", no, api.OK)
		if at != 3+i {
			t.Errorf("Propose: %d, want %d", at, 3+i)
		}
		rest := s.Entries[1:]
		sends(t, "Propose", l, entries(0, 1, 6, 1, 1, 0, 0, rest...), entries(0, 2, 6, 1, 1, 0, 0, rest...))
		is(t, r, leader, 0, s)
	}
	for _, e := range []api.Entry{{}, noop(0), noop(6), sample.Create("$"), of(-1, 1), of(mostTerm+1, 1), {Kind: 8}, sample.By(noop(6), 6, 1, 1)} {
		if at, l, no := r.Propose(e); at != 0 || len(l) != 0 || no != api.ErrArg {
			t.Errorf("Propose(%s) = %d, %s, %d, want ErrArg", show(e), at, show(l), no)
		}
	}
	is(t, r, leader, 0, s)
	// One alone commits it at once.
	alone := elected(t, api.Start{Nodes: 1, Vote: nobody, First: 1})
	at, l, no := alone.Propose(of(0, 1))
	if s := alone.Brief(); at != 2 || len(l) != 0 || no != api.OK || s.Commit != 2 {
		t.Errorf("Propose = %d, %s, %d; the commit is %d", at, show(l), no, s.Commit)
	}
}

func TestOthersDoNotPropose(t *testing.T) {
	r := made(t, start(1, 0, 0, 1))
	for _, role := range []int{follower, candidate} {
		if r.Role() != role {
			t.Fatalf("its role is %d", r.Role())
		}
		s := r.State()
		for _, e := range []api.Entry{of(0, 1), {}, noop(0)} {
			if at, l, no := r.Propose(e); at != 0 || len(l) != 0 || no != api.ErrLeader {
				t.Errorf("Propose = %d, %s, %d, want ErrLeader", at, show(l), no)
			}
		}
		if round, l, no := r.Begin(); round != 0 || len(l) != 0 || no != api.ErrLeader {
			t.Errorf("Begin = %d, %s, %d, want ErrLeader", round, show(l), no)
		}
		if r.Sure(0) || r.Sure(-1) {
			t.Error("it does not lead, and is sure")
		}
		is(t, r, role, nobody, s)
		for range 10 {
			r.Tick()
		}
	}
}

func TestALogWithoutRoomProposesNothing(t *testing.T) {
	for _, first := range []int{1, 5} {
		s := start(first, 0, first-1)
		s.Entries = long(957, 5)
		r := elected(t, s)
		for i := range 2 {
			if at, _, no := r.Propose(of(0, 1)); no != api.OK || at != first+958+i {
				t.Errorf("Propose to a log of %d: %d, %d", 958+i, at, no)
			}
		}
		before := r.State()
		if at, l, no := r.Propose(of(0, 1)); at != 0 || len(l) != 0 || no != api.ErrFull {
			t.Errorf("Propose to a log of 960: %d, %s, %d", at, show(l), no)
		}
		_, _, no := r.Propose(noop(0))
		want(t, "Propose of a noop", no, api.ErrArg)
		is(t, r, leader, 0, before)
	}
	// It has room again, when it is compacted.
	s := api.Start{Nodes: 1, Term: 5, Vote: nobody, First: 1, Entries: long(1023, 5)}
	r := elected(t, s)
	_, _, no := r.Propose(of(0, 1))
	want(t, "Propose", no, api.ErrFull)
	want(t, "Compact", r.Compact(64, []byte("s")), api.OK)
	_, _, no = r.Propose(of(0, 1))
	want(t, "Propose", no, api.ErrFull)
	want(t, "Compact", r.Compact(65, []byte("s")), api.OK)
	_, _, no = r.Propose(of(0, 1))
	want(t, "Propose", no, api.OK)
}

// Begin and Sure.

func TestRounds(t *testing.T) {
	r := elected(t, api.Start{Nodes: 5, Term: 5, Vote: nobody, First: 1, Entries: log(1)})
	s := r.State()
	begins := func(round int) {
		t.Helper()
		got, l, no := r.Begin()
		if got != round || no != api.OK {
			t.Errorf("Begin = %d, %d, want %d", got, no, round)
		}
		sends(t, "Begin", l, others(s, func(node int) api.Msg { return entries(0, node, 6, 1, 1, 0, round, noop(6)) })...)
		is(t, r, leader, 0, s)
	}
	begins(1)
	begins(2)
	// It is not sure, as what its commit is of an older term.
	for node := 1; node < 5; node++ {
		r.Step(appended(node, 0, 6, 0, 2, false))
	}
	if r.Sure(0) || r.Sure(1) {
		t.Error("it is sure without a commit of its own")
	}
	r.Step(appended(1, 0, 6, 2, 0, true))
	r.Step(appended(2, 0, 6, 2, 0, true))
	for round, sure := range map[int]bool{math.MinInt: true, -1: true, 0: true, 1: true, 2: true, 3: false, math.MaxInt: false} {
		if r.Sure(round) != sure {
			t.Errorf("Sure(%d) = %t", round, !sure)
		}
	}
	got, l, no := r.Begin()
	if got != 3 || no != api.OK || len(l) != 4 || slices.ContainsFunc(l, func(m api.Msg) bool { return m.Round != 3 }) {
		t.Errorf("Begin = %d, %s, %d", got, show(l), no)
	}
	for i, m := range []api.Msg{appended(1, 0, 6, 2, 2, true), appended(1, 0, 6, 2, 3, true), appended(1, 0, 6, 2, 0, true), appended(1, 0, 6, 2, 3, true), appended(3, 0, 5, 2, 3, true), appended(3, 0, 6, 0, 3, false)} {
		if r.Sure(3) || !r.Sure(2) {
			t.Errorf("ahead of answer %d: Sure(3) = %t, Sure(2) = %t", i, r.Sure(3), r.Sure(2))
		}
		r.Step(m)
	}
	if !r.Sure(3) || r.Sure(4) {
		t.Error("a majority answered round 3, and no other one")
	}
	// Who does not lead any more is not sure.
	r.Step(voted(1, 0, 7, false))
	if r.Sure(0) {
		t.Error("it does not lead, and is sure")
	}
}

func TestAMajorityAnswersARound(t *testing.T) {
	for nodes := 1; nodes <= 7; nodes++ {
		r := elected(t, api.Start{Nodes: nodes, Vote: nobody, First: 1})
		for node := 1; node < nodes; node++ {
			r.Step(appended(node, 0, 1, 1, 0, true))
		}
		round, _, _ := r.Begin()
		for node := 1; node <= nodes/2; node++ {
			if r.Sure(round) {
				t.Errorf("%d of %d answered, and it is sure", node, nodes)
			}
			r.Step(appended(node, 0, 1, 1, round, true))
		}
		if !r.Sure(round) {
			t.Errorf("a majority of %d answered, and it is not sure", nodes)
		}
	}
}

func TestARoundIsOfATerm(t *testing.T) {
	r := elected(t, start(1, 0, 0, 1))
	r.Begin()
	r.Step(appended(1, 0, 6, 2, 1, true))
	if !r.Sure(1) {
		t.Error("it is not sure")
	}
	r.Step(voted(1, 0, 7, false))
	for range 10 {
		r.Tick()
	}
	step(t, r, voted(2, 0, 8, true), entries(0, 1, 8, 2, 6, 2, 0, noop(8)), entries(0, 2, 8, 2, 6, 2, 0, noop(8)))
	if r.Sure(0) {
		t.Error("it is sure in a new term")
	}
	step(t, r, appended(2, 0, 8, 3, 0, true))
	if !r.Sure(0) || r.Sure(1) {
		t.Error("rounds do not begin anew")
	}
	if round, _, no := r.Begin(); round != 1 || no != api.OK {
		t.Errorf("Begin = %d, %d", round, no)
	}
}

// Behind Compact the commit's term is still known.
func TestSureBehindCompact(t *testing.T) {
	r := ofThree(t, 4)
	want(t, "Compact", r.Compact(4, []byte("s")), api.OK)
	if !r.Sure(0) {
		t.Error("it is not sure any more")
	}
}

// Begin does not set the clock back.
func TestBeginIsNoTick(t *testing.T) {
	r := elected(t, start(1, 0, 0, 1))
	ticks(t, r, 2)
	r.Begin()
	if l := r.Tick(); len(l) != 2 {
		t.Errorf("tick 3 sends %s", show(l))
	}
}
