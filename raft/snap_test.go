package raft_test

import (
	"math"
	"strings"
	"testing"

	"tributary/api"
	"tributary/raft"
)

// P23.1, P23.3: snapshots: MsgSnap, Compact, Hold, Took.

func took(t *testing.T, r *raft.Raft, b string) {
	t.Helper()
	if got := string(r.Took()); got != b {
		t.Errorf("Took() = %q, want %q", show(got), show(b))
	}
}

func TestSnapshots(t *testing.T) {
	for _, c := range []struct {
		what           string
		s              api.Start
		index, logTerm int
		answer         int
		taken          bool
		commit         int
	}{
		{"one that is there: below the commit", start(1, 0, 2, 1, 2, 3), 1, 1, 2, false, 2},
		{"one that is there: at the commit", start(1, 0, 2, 1, 2, 3), 2, 2, 2, false, 2},
		{"one that is there, of another term", start(1, 0, 2, 1, 2, 3), 2, 4, 2, false, 2},
		{"one that is ahead of the base", start(7, 2, 6, 3), 5, 1, 6, false, 6},
		{"one that is at the base", start(7, 2, 6, 3), 6, 2, 6, false, 6},
		{"one that is at the base, of another term", start(7, 2, 6), 6, 5, 6, false, 6},
		{"one of an entry that is there", start(1, 0, 1, 1, 2, 3), 2, 2, 2, false, 2},
		{"one of the last entry", start(1, 0, 1, 1, 2, 3), 3, 3, 3, false, 3},
		{"one of an entry behind the base", start(7, 2, 6, 3), 7, 3, 7, false, 7},
		{"one of another entry", start(1, 0, 1, 1, 2, 3), 2, 3, 2, true, 2},
		{"one of another last entry", start(1, 0, 2, 1, 2, 3), 3, 2, 3, true, 3},
		{"one behind the last entry", start(1, 0, 1, 1, 2, 3), 4, 3, 4, true, 4},
		{"one far behind the last entry", start(1, 0, 3, 1, 2, 3), mostFirst - 1, 5, mostFirst - 1, true, mostFirst - 1},
		{"one for an empty log", start(1, 0, 0), 1, 1, 1, true, 1},
		{"one for an empty log behind a base", start(7, 2, 6), 7, 1, 7, true, 7},
	} {
		after := c.s
		after.Commit = c.commit
		b := ""
		if c.taken {
			after.First, after.Base, after.Entries = c.index+1, c.logTerm, nil
			b = "snap"
		}
		r := made(t, c.s)
		m := snapshot(1, 0, 5, c.index, c.logTerm, "snap")
		for range 2 {
			step(t, r, m, appended(0, 1, 5, c.answer, 0, true))
			is(t, r, follower, 1, after)
			took(t, r, b)
			if r.Changed() != 0 {
				t.Errorf("%s: Changed() = %d", c.what, r.Changed())
			}
		}
		r.Clean()
		took(t, r, "")
		is(t, r, follower, 1, after)
		// In a newer term it is the same, in an older one it is nothing.
		r = made(t, c.s)
		step(t, r, snapshot(2, 0, 9, c.index, c.logTerm, "snap"), appended(0, 2, 9, c.answer, 0, true))
		after.Term, after.Vote = 9, nobody
		is(t, r, follower, 2, after)
		took(t, r, b)
		if c.logTerm > 4 {
			continue
		}
		r = made(t, c.s)
		step(t, r, snapshot(1, 0, 4, c.index, c.logTerm, "snap"), appended(0, 1, 5, 0, 0, false))
		is(t, r, follower, nobody, c.s)
		took(t, r, "")
	}
}

func TestTheLogGoesOnBehindASnapshot(t *testing.T) {
	r := made(t, start(1, 0, 1, 1, 2, 3))
	step(t, r, snapshot(1, 0, 5, 20, 4, "snap"), appended(0, 1, 5, 20, 0, true))
	step(t, r, entries(1, 0, 5, 20, 4, 21, 1, log(4, 5)...), appended(0, 1, 5, 22, 1, true))
	s := start(21, 4, 21, 4, 5)
	is(t, r, follower, 1, s)
	took(t, r, "snap")
	if r.Changed() != 21 {
		t.Errorf("Changed() = %d", r.Changed())
	}
	// The last one that was taken counts.
	step(t, r, snapshot(1, 0, 5, 30, 5, "other"), appended(0, 1, 5, 30, 0, true))
	took(t, r, "other")
	r.Clean()
	took(t, r, "")
}

// ofThree answers a leader of three nodes in term 6, whose log has 4 entries, all committed, and of which the others' nodes have as much as the last indexes say.
func ofThree(t *testing.T, last ...int) *raft.Raft {
	t.Helper()
	r := elected(t, start(1, 0, 0, 1, 1, 5))
	for node, i := range last {
		if i > 0 {
			r.Step(appended(node+1, 0, 6, i, 0, true))
		}
	}
	return r
}

func TestCompact(t *testing.T) {
	b := func(n int) []byte { return []byte(strings.Repeat("s", n)) }
	for index, s := range map[int]api.Start{
		7: start(8, 3, 9, 3, 4, 5), 8: start(9, 3, 9, 4, 5), 9: start(10, 4, 9, 5),
	} {
		s.Entries = log(3, 3, 4, 5)[index-6:]
		for _, n := range []int{1, 2, 1 << 16} {
			r := made(t, start(7, 2, 9, 3, 3, 4, 5))
			want(t, "Compact", r.Compact(index, b(n)), api.OK)
			is(t, r, follower, nobody, s)
			if r.Changed() != 0 || len(r.Took()) != 0 {
				t.Errorf("behind Compact: Changed() = %d, Took() = %q", r.Changed(), show(r.Took()))
			}
		}
	}
	r, s := made(t, start(7, 2, 9, 3, 3, 4, 5)), start(7, 2, 9, 3, 3, 4, 5)
	for _, index := range []int{math.MinInt, -1, 0, 1, 5, 6, 10, 11, mostTerm, math.MaxInt} {
		want(t, "Compact", r.Compact(index, b(1)), api.ErrArg)
	}
	for _, n := range []int{0, 1<<16 + 1} {
		want(t, "Compact", r.Compact(8, b(n)), api.ErrArg)
		want(t, "Hold", r.Hold(b(n)), api.ErrArg)
	}
	is(t, r, follower, nobody, s)
	for _, n := range []int{1, 1 << 16} {
		want(t, "Hold", r.Hold(b(n)), api.OK)
	}
	is(t, r, follower, nobody, s)
	// All may be dropped; then there is nothing to compact.
	r = made(t, start(1, 0, 2, 1, 2))
	want(t, "Hold", r.Hold(b(1)), api.ErrArg)
	want(t, "Compact", r.Compact(2, b(1)), api.OK)
	is(t, r, follower, nobody, start(3, 2, 2))
	want(t, "Compact", r.Compact(2, b(1)), api.ErrArg)
	want(t, "Compact", r.Compact(3, b(1)), api.ErrArg)
	want(t, "Hold", r.Hold(b(1)), api.OK)
	// What was dropped does not come back.
	step(t, r, entries(1, 0, 5, 0, 0, 2, 0, log(1, 2, 5)...), appended(0, 1, 5, 3, 0, true))
	after := start(3, 2, 2)
	after.Entries = log(1, 2, 5)[2:]
	is(t, r, follower, 1, after)
}

func TestASnapshotIsSent(t *testing.T) {
	// Node 1 has all 4 entries, node 2 none.
	r := ofThree(t, 4)
	for range 5 {
		r.Step(appended(2, 0, 6, 0, 0, false))
	}
	sends(t, "Tick", tick3(r), entries(0, 1, 6, 4, 6, 4, 0), entries(0, 2, 6, 0, 0, 4, 0, append(log(1, 1, 5), noop(6))...))
	want(t, "Compact", r.Compact(3, []byte("three")), api.OK)
	sends(t, "Tick", tick3(r), entries(0, 1, 6, 4, 6, 4, 0), snapshot(0, 2, 6, 3, 5, "three"))
	want(t, "Hold", r.Hold([]byte("another")), api.OK)
	sends(t, "Tick", tick3(r), entries(0, 1, 6, 4, 6, 4, 0), snapshot(0, 2, 6, 3, 5, "another"))
	want(t, "Compact", r.Compact(4, []byte("four")), api.OK)
	sends(t, "Tick", tick3(r), entries(0, 1, 6, 4, 6, 4, 0), snapshot(0, 2, 6, 4, 6, "four"))
	_, l, e := r.Propose(of(0, 9))
	want(t, "Propose", e, api.OK)
	sends(t, "Propose", l, entries(0, 1, 6, 4, 6, 4, 0, of(6, 9)), snapshot(0, 2, 6, 4, 6, "four"))
	// Who has it is sent what is behind it.
	step(t, r, appended(2, 0, 6, 4, 0, true), entries(0, 2, 6, 4, 6, 4, 0, of(6, 9)))
}

// tick3 lets a leader call.
func tick3(r *raft.Raft) []api.Msg {
	for range 2 {
		r.Tick()
	}
	return r.Tick()
}

func TestWithoutASnapshotNothingIsSent(t *testing.T) {
	r := elected(t, start(7, 2, 8, 3, 3))
	step(t, r, appended(1, 0, 6, 5, 0, false))
	// Its next index is 6 then, which is ahead of the first one.
	sends(t, "Tick", tick3(r), entries(0, 2, 6, 8, 3, 8, 0, noop(6)))
	want(t, "Hold", r.Hold([]byte("held")), api.OK)
	sends(t, "Tick", tick3(r), snapshot(0, 1, 6, 6, 2, "held"), entries(0, 2, 6, 8, 3, 8, 0, noop(6)))
	step(t, r, appended(2, 0, 6, 5, 0, false), snapshot(0, 2, 6, 6, 2, "held"))
}

func TestWhatWasTakenIsSentOn(t *testing.T) {
	r := made(t, start(1, 0, 0, 1, 2))
	step(t, r, snapshot(1, 0, 5, 20, 4, "snap"), appended(0, 1, 5, 20, 0, true))
	r.Clean()
	for range 10 {
		r.Tick()
	}
	r.Step(voted(1, 0, 6, true))
	step(t, r, appended(2, 0, 6, 0, 0, false), snapshot(0, 2, 6, 20, 4, "snap"))
}

// One that is committed by a snapshot keeps the entries, and the snapshot that it had.
func TestASnapshotOfAnEntryThatIsThereIsNotTaken(t *testing.T) {
	r := made(t, start(3, 2, 2, 3, 3, 4))
	want(t, "Hold", r.Hold([]byte("held")), api.OK)
	step(t, r, snapshot(1, 0, 5, 4, 3, "snap"), appended(0, 1, 5, 4, 0, true))
	is(t, r, follower, 1, start(3, 2, 4, 3, 3, 4))
	for range 10 {
		r.Tick()
	}
	r.Step(voted(1, 0, 6, true))
	step(t, r, appended(2, 0, 6, 0, 0, false), snapshot(0, 2, 6, 2, 2, "held"))
}
