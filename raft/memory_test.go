package raft_test

import (
	"testing"

	"tributary/api"
	"tributary/raft"
	"tributary/sample"
)

// R3: what is handed in is neither changed nor kept; what is answered is new memory.

// rich answers entries that have lists.
func rich(term int) []api.Entry {
	doc := sample.Item(sample.Array(sample.Number(1)), sample.Array(sample.Null()))
	return []api.Entry{
		sample.By(sample.Insert("c", doc), term, 1, 1),
		sample.By(sample.Update("c", sample.Array(sample.Number(1)), sample.Set("a.0", sample.One("k", sample.Null()))), term, 1, 2),
		sample.By(sample.Delete("c", sample.Array(sample.Number(1))), term, 1, 3),
	}
}

// richStart is a start of such entries.
func richStart() api.Start {
	s := start(3, 1, 2)
	s.Entries = rich(2)
	return s
}

func TestNewKeepsNothing(t *testing.T) {
	s := richStart()
	s.Entries = sample.RoomyLog(s.Entries)
	r := made(t, s)
	if !sample.UntouchedLog(s.Entries, rich(2)) {
		t.Error("New changes what it is given")
	}
	sample.SpoilLog(s.Entries)
	is(t, r, follower, nobody, richStart())
}

func TestStepKeepsNothing(t *testing.T) {
	r := made(t, richStart())
	for _, was := range []api.Msg{
		entries(1, 0, 5, 5, 2, 0, 0, rich(3)...), entries(1, 0, 5, 0, 0, 0, 0, append(rich(1), rich(2)...)...), entries(1, 0, 5, 7, 2, 0, 0, rich(3)...), snapshot(1, 0, 5, 20, 4, "snap"),
	} {
		m := sample.RoomyMsg(was)
		if _, e := r.Step(m); e != api.OK {
			t.Fatalf("Step: %d", e)
		}
		if !sample.UntouchedMsg(m, was) {
			t.Errorf("Step changes %s", show(was))
		}
		before := r.State()
		sample.SpoilMsg(m)
		is(t, r, follower, 1, before)
	}
	took(t, r, "snap")
}

func TestProposeCompactAndHoldKeepNothing(t *testing.T) {
	r := ofThree(t, 4)
	for i, was := range rich(0) {
		e := sample.RoomyEntry(was)
		r.Propose(e)
		if !sample.UntouchedEntry(e, was) {
			t.Errorf("Propose changes %s", show(was))
		}
		sample.SpoilEntry(e)
		if got, _ := r.At(5 + i); !sample.AlikeEntries(got, rich(6)[i]) {
			t.Errorf("Propose keeps what it is given: %s", show(got))
		}
	}
	for i, do := range []func(b []byte) api.Errno{func(b []byte) api.Errno { return r.Compact(2, b) }, r.Hold} {
		b := sample.RoomyBytes([]byte("snap"))
		want(t, "Compact or Hold", do(b), api.OK)
		if !sample.UntouchedBytes(b, []byte("snap")) {
			t.Error(i, "changes what it is given")
		}
		clear(b[:cap(b)])
		step(t, r, appended(2, 0, 6, 0, 0, false), snapshot(0, 2, 6, 2, 1, "snap"))
	}
}

func TestAnswersAreNewMemory(t *testing.T) {
	s := start(1, 0, 0)
	s.Entries = rich(5)
	r := elected(t, s)
	// Each call answers the same again, whatever becomes of what it answered.
	call := func() []api.Msg { return tick3(r) }
	asked := func() []api.Msg {
		_, l, _ := r.Begin()
		for i := range l {
			l[i].Round = 0
		}
		return l
	}
	stepped := func() []api.Msg {
		l, _ := r.Step(appended(1, 0, 6, 0, 0, false))
		return l
	}
	stepped()
	for _, sent := range []func() []api.Msg{call, asked, stepped} {
		for range 2 {
			l := sent()
			if len(l) == 0 {
				t.Fatal("nothing is sent")
			}
			for _, m := range l {
				if m.To != 1 {
					continue
				}
				m.Round = 0
				if !sample.AlikeMsgs(m, entries(0, 1, 6, 0, 0, 0, 0, append(rich(5), noop(6))...)) {
					t.Errorf("sent is %s", show(m))
				}
			}
			spoilSent(l)
		}
	}
	for range 2 {
		got := r.State()
		is(t, r, leader, 0, led(s))
		sample.SpoilLog(got.Entries)
		for i := range 3 {
			e, _ := r.At(1 + i)
			sample.SpoilEntry(e)
		}
	}
	is(t, r, leader, 0, led(s))
}

// spoilSent changes all that messages hold, and the list's spare room.
func spoilSent(l []api.Msg) {
	for _, m := range l[:cap(l)] {
		sample.SpoilMsg(m)
	}
	clear(l[:cap(l)])
}

func TestSnapshotsAreNewMemory(t *testing.T) {
	r := made(t, start(1, 0, 0))
	r.Step(snapshot(1, 0, 5, 20, 4, "snap"))
	for range 2 {
		took(t, r, "snap")
		b := r.Took()
		clear(b[:cap(b)])
	}
	for range 10 {
		r.Tick()
	}
	r.Step(voted(1, 0, 6, true))
	r.Step(appended(1, 0, 6, 0, 0, false))
	r.Step(appended(2, 0, 6, 0, 0, false))
	var last []api.Msg
	for range 2 {
		last = tick3(r)
		sends(t, "Tick", last, snapshot(0, 1, 6, 20, 4, "snap"), snapshot(0, 2, 6, 20, 4, "snap"))
		clear(last[0].Snap)
		sends(t, "Tick", last[1:], snapshot(0, 2, 6, 20, 4, "snap"))
		spoilSent(last)
	}
}

// Two nodes share nothing.
func TestNodesOfOneStart(t *testing.T) {
	s := richStart()
	one, two := made(t, s), made(t, s)
	again, e := raft.New(one.State())
	want(t, "New", e, api.OK)
	one.Step(entries(1, 0, 5, 2, 1, 9, 0, of(5, 1)))
	is(t, two, follower, nobody, richStart())
	is(t, again, follower, nobody, richStart())
}
