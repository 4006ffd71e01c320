package raft_test

import (
	"fmt"
	"math"
	"slices"
	"strings"
	"testing"

	"tributary/api"
	"tributary/raft"
	"tributary/sample"
)

const (
	follower, candidate, leader = api.RoleFollower, api.RoleCandidate, api.RoleLeader
	nobody                      = api.NoNode
	mostTerm                    = 1 << 40
	mostFirst                   = 1 << 39
)

// show is how a failed test tells of what may be long.
func show(x any) string { return fmt.Sprintf("%.400s", fmt.Sprint(x)) }

// want asks for an error's number.
func want(t *testing.T, what string, e, want api.Errno) {
	t.Helper()
	if e != want {
		t.Errorf("%.200s: %d, want %d", what, e, want)
	}
}

// of answers an entry of a term; the number tells it from others.
func of(term, number int) api.Entry { return sample.By(sample.Create("c"), term, 1, number) }

// log answers entries of these terms, of which each is another one.
func log(terms ...int) []api.Entry {
	var l []api.Entry
	for i, term := range terms {
		l = append(l, of(term, i+1))
	}
	return l
}

// noop answers the entry that a leader begins with.
func noop(term int) api.Entry { return sample.By(sample.Noop(), term, 0, 0) }

// long answers so many entries of a term.
func long(n, term int) []api.Entry { return log(slices.Repeat([]int{term}, n)...) }

// start is what node 0 of three begins with, in term 5, who voted for nobody.
func start(first, base, commit int, terms ...int) api.Start {
	return api.Start{Nodes: 3, Term: 5, Vote: nobody, First: first, Base: base, Entries: log(terms...), Commit: commit}
}

// made answers the node that begins so.
func made(t *testing.T, s api.Start) *raft.Raft {
	t.Helper()
	r, e := raft.New(s)
	if e != api.OK || r == nil {
		t.Fatalf("New(%s): %d", show(s), e)
	}
	return r
}

// is asks a node for its state, by all calls that tell of it.
func is(t *testing.T, r *raft.Raft, role, leads int, s api.Start) {
	t.Helper()
	if got := r.State(); !sample.AlikeStarts(got, s) {
		t.Errorf("State() = %s, want %s", show(got), show(s))
	}
	brief := s
	brief.Entries = nil
	if got := r.Brief(); !sample.AlikeStarts(got, brief) {
		t.Errorf("Brief() = %s, want %s", show(got), show(brief))
	}
	if r.Role() != role || r.Leader() != leads {
		t.Errorf("Role() = %d, Leader() = %d, want %d, %d", r.Role(), r.Leader(), role, leads)
	}
	last := s.First + len(s.Entries) - 1
	if r.Last() != last {
		t.Errorf("Last() = %d, want %d", r.Last(), last)
	}
	for _, i := range []int{math.MinInt, -1, 0, s.First - 2, s.First - 1, last + 1, last + 2, math.MaxInt} {
		if x, e := r.At(i); e != api.ErrNone || !sample.AlikeEntries(x, api.Entry{}) {
			t.Errorf("At(%d) = %s, %d, want ErrNone", i, show(x), e)
		}
		term, e := r.TermAt(i)
		if there := i == s.First-1; there && (term != s.Base || e != api.OK) || !there && (term != 0 || e != api.ErrNone) {
			t.Errorf("TermAt(%d) = %d, %d", i, term, e)
		}
	}
	for k, x := range s.Entries {
		if got, e := r.At(s.First + k); e != api.OK || !sample.AlikeEntries(got, x) {
			t.Errorf("At(%d) = %s, %d, want %s", s.First+k, show(got), e, show(x))
		}
		if term, e := r.TermAt(s.First + k); e != api.OK || term != x.Term {
			t.Errorf("TermAt(%d) = %d, %d, want %d", s.First+k, term, e, x.Term)
		}
	}
}

// sends asks for messages, in order.
func sends(t *testing.T, what string, got []api.Msg, want ...api.Msg) {
	t.Helper()
	if !slices.EqualFunc(got, want, sample.AlikeMsgs) {
		t.Errorf("%.200s sends %s, want %s", what, show(got), show(want))
	}
}

// step asks for what a message does, of which these are sent.
func step(t *testing.T, r *raft.Raft, m api.Msg, want ...api.Msg) {
	t.Helper()
	l, e := r.Step(m)
	if e != api.OK {
		t.Errorf("Step(%s): %d", show(m), e)
	}
	sends(t, "Step("+show(m)+")", l, want...)
}

// ticks lets so many pass in which nothing is sent.
func ticks(t *testing.T, r *raft.Raft, n int) {
	t.Helper()
	for i := range n {
		sends(t, fmt.Sprint("tick ", i+1), r.Tick())
	}
}

// patience is how many ticks node id waits for a leader.
func patience(id int) int { return 10 + 4*id }

// elected answers a node that begins so and was elected by as many of the others as it takes; it has one term more, and, where there is room, a noop.
func elected(t *testing.T, s api.Start) *raft.Raft {
	t.Helper()
	r := made(t, s)
	for range patience(s.Id) {
		r.Tick()
	}
	for node := 0; r.Role() != leader; node++ {
		if node >= s.Nodes {
			t.Fatalf("%s is not elected", show(s))
		}
		if node != s.Id {
			r.Step(voted(node, s.Id, s.Term+1, true))
		}
	}
	r.Clean()
	return r
}

// The messages.

func vote(from, to, term, index, logTerm int) api.Msg {
	return api.Msg{Kind: api.MsgVote, From: from, To: to, Term: term, Index: index, LogTerm: logTerm}
}

func voted(from, to, term int, ok bool) api.Msg {
	return api.Msg{Kind: api.MsgVoted, From: from, To: to, Term: term, Ok: ok}
}

func entries(from, to, term, index, logTerm, commit, round int, l ...api.Entry) api.Msg {
	return api.Msg{Kind: api.MsgAppend, From: from, To: to, Term: term, Index: index, LogTerm: logTerm, Commit: commit, Round: round, Entries: l}
}

func appended(from, to, term, index, round int, ok bool) api.Msg {
	return api.Msg{Kind: api.MsgAppended, From: from, To: to, Term: term, Index: index, Round: round, Ok: ok}
}

func snapshot(from, to, term, index, logTerm int, b string) api.Msg {
	return api.Msg{Kind: api.MsgSnap, From: from, To: to, Term: term, Index: index, LogTerm: logTerm, Snap: []byte(b)}
}

// P23.1: New, State, Brief, Role, Leader, Last, At, TermAt.

// starts are some that may be.
func starts() []api.Start {
	l := []api.Start{
		{Nodes: 1, Vote: nobody, First: 1},
		start(1, 0, 0), start(1, 0, 0, 1), start(1, 0, 3, 1, 2, 5), start(1, 0, 2, 0, 0, 0), start(7, 0, 6), start(7, 2, 6, 2, 2, 3), start(7, 5, 8, 5, 5), start(2, 5, 1, 5),
		start(mostFirst, 5, mostFirst-1), start(mostFirst, 1, mostFirst+1, 1, 5),
		{Id: 6, Nodes: 7, Term: mostTerm, Vote: 6, First: 9, Base: mostTerm, Entries: log(mostTerm), Commit: 9},
		{Nodes: 3, Term: 5, Vote: 2, First: 1, Entries: long(1024, 4), Commit: 1024},
		{Nodes: 3, Term: 5, Vote: 2, First: mostFirst, Base: 4, Entries: long(1024, 4), Commit: mostFirst - 1},
	}
	for nodes := 1; nodes <= 7; nodes++ {
		for id := range nodes {
			for vote := -1; vote < nodes; vote++ {
				l = append(l, api.Start{Id: id, Nodes: nodes, Term: 1, Vote: vote, First: 1})
			}
		}
	}
	for commit := 6; commit <= 9; commit++ {
		l = append(l, start(7, 1, commit, 1, 2, 3))
	}
	return l
}

func TestNew(t *testing.T) {
	for _, s := range starts() {
		r := made(t, s)
		is(t, r, follower, nobody, s)
		if r.Changed() != 0 || len(r.Took()) != 0 || r.Sure(0) {
			t.Errorf("of %s: Changed() = %d, Took() = %q, Sure(0) = %t", show(s), r.Changed(), r.Took(), r.Sure(0))
		}
		again := made(t, r.State())
		is(t, again, follower, nobody, s)
	}
}

func TestNewRefuses(t *testing.T) {
	good := start(7, 2, 8, 2, 3, 4)
	good.Id, good.Vote = 1, 2
	is(t, made(t, good), follower, nobody, good)
	for what, change := range map[string]func(s *api.Start){
		"Nodes 0": func(s *api.Start) { s.Nodes, s.Id, s.Vote = 0, 0, nobody }, "Nodes -1": func(s *api.Start) { s.Nodes, s.Id, s.Vote = -1, -2, nobody }, "Nodes 8": func(s *api.Start) { s.Nodes = 8 }, "many Nodes": func(s *api.Start) { s.Nodes = math.MaxInt }, "few Nodes": func(s *api.Start) { s.Nodes = math.MinInt },
		"Id -1": func(s *api.Start) { s.Id = -1 }, "Id 3": func(s *api.Start) { s.Id = 3 }, "Id 1 of 1": func(s *api.Start) { s.Nodes, s.Vote = 1, 0 }, "least Id": func(s *api.Start) { s.Id = math.MinInt }, "Id of more bits": func(s *api.Start) { s.Id += 1 << 32 },
		"Vote -2": func(s *api.Start) { s.Vote = -2 }, "Vote 3": func(s *api.Start) { s.Vote = 3 }, "greatest Vote": func(s *api.Start) { s.Vote = math.MaxInt }, "Vote of more bits": func(s *api.Start) { s.Vote += 1 << 32 },
		"Term below the last entry's": func(s *api.Start) { s.Term = 3 }, "Term -1": func(s *api.Start) { s.Term = -1 }, "Term above MaxTerm": func(s *api.Start) { s.Term = mostTerm + 1 }, "Term -1 without more": func(s *api.Start) { *s = api.Start{Nodes: 3, Term: -1, Vote: nobody, First: 1} },
		"First 0": func(s *api.Start) { s.First, s.Base, s.Commit = 0, 0, 0 }, "First -1": func(s *api.Start) { s.First, s.Commit = -1, -1 }, "First above MaxFirst": func(s *api.Start) { s.First, s.Commit = mostFirst+1, mostFirst+1 }, "greatest First": func(s *api.Start) { s.First, s.Commit = math.MaxInt, math.MaxInt }, "least First": func(s *api.Start) { s.First, s.Commit = math.MinInt, math.MinInt },
		"Base -1": func(s *api.Start) { s.Base = -1 }, "Base above the first entry's Term": func(s *api.Start) { s.Base = 3 }, "Base above Term": func(s *api.Start) { s.Base, s.Entries, s.Commit = 6, nil, 6 }, "Base of First 1": func(s *api.Start) { s.First, s.Commit = 1, 1 },
		"Terms that fall": func(s *api.Start) { s.Entries = log(2, 4, 3) }, "an entry of Term -1": func(s *api.Start) { s.Entries[0].Term = -1 }, "an entry of a Term above Term": func(s *api.Start) { s.Entries[2].Term = 6 }, "an entry that may not be": func(s *api.Start) { s.Entries[1].Coll = "$" }, "{} among the entries": func(s *api.Start) { s.Base, s.Entries[0] = 0, api.Entry{} }, "too many entries": func(s *api.Start) { s.Entries = long(1025, 2) },
		"Commit below First - 1": func(s *api.Start) { s.Commit = 5 }, "Commit above the last one": func(s *api.Start) { s.Commit = 10 }, "Commit -1 of First 1": func(s *api.Start) { *s = start(1, 0, -1) }, "Commit 1 of none": func(s *api.Start) { *s = start(1, 0, 1) }, "least Commit": func(s *api.Start) { s.Commit = math.MinInt }, "greatest Commit": func(s *api.Start) { s.Commit = math.MaxInt },
		"{}": func(s *api.Start) { *s = api.Start{} },
	} {
		s := good
		s.Entries = slices.Clone(good.Entries)
		change(&s)
		if r, e := raft.New(s); r != nil || e != api.ErrArg {
			t.Errorf("New of %s: %v, %d, want ErrArg", what, r, e)
		}
	}
}

// Of a nil Raft.

func TestNil(t *testing.T) {
	var r *raft.Raft
	sends(t, "Tick", r.Tick())
	for _, m := range []api.Msg{{}, vote(1, 0, 1, 0, 0)} {
		if l, e := r.Step(m); len(l) != 0 || e != api.ErrClosed {
			t.Errorf("Step = %v, %d", l, e)
		}
	}
	for _, x := range []api.Entry{{}, noop(0), of(1, 1)} {
		if i, l, e := r.Propose(x); i != 0 || len(l) != 0 || e != api.ErrClosed {
			t.Errorf("Propose = %d, %v, %d", i, l, e)
		}
	}
	if i, l, e := r.Begin(); i != 0 || len(l) != 0 || e != api.ErrClosed {
		t.Errorf("Begin = %d, %v, %d", i, l, e)
	}
	for _, b := range []string{"", "b", strings.Repeat("x", 1<<16+1)} {
		want(t, "Compact", r.Compact(1, []byte(b)), api.ErrClosed)
		want(t, "Hold", r.Hold([]byte(b)), api.ErrClosed)
	}
	if !sample.AlikeStarts(r.State(), api.Start{}) || !sample.AlikeStarts(r.Brief(), api.Start{}) {
		t.Errorf("State = %v, Brief = %v", r.State(), r.Brief())
	}
	if r.Role() != 0 || r.Leader() != nobody || r.Last() != 0 || r.Changed() != 0 || len(r.Took()) != 0 || r.Sure(0) || r.Sure(-1) {
		t.Error("a nil Raft tells something")
	}
	if x, e := r.At(0); e != api.ErrClosed || !sample.AlikeEntries(x, api.Entry{}) {
		t.Errorf("At = %v, %d", x, e)
	}
	if term, e := r.TermAt(0); e != api.ErrClosed || term != 0 {
		t.Errorf("TermAt = %d, %d", term, e)
	}
	r.Clean()
}
