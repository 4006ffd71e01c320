package node_test

import (
	"fmt"
	"math"
	"slices"
	"testing"

	"tributary/api"
	"tributary/entry"
	"tributary/files"
	"tributary/node"
	"tributary/sample"
	"tributary/snap"
	"tributary/vote"
	"tributary/wal"
)

// P24.1: Boot.

// alike asks whether two disks have the same files, as much of them sure.
func alike(t *testing.T, what string, got, want *files.Disk) {
	t.Helper()
	if got.Off() != want.Off() || !slices.Equal(got.Names(), want.Names()) {
		t.Errorf("%s: off is %t, the files are %q, want %t, %q", what, got.Off(), got.Names(), want.Off(), want.Names())
	}
	for _, name := range want.Names() {
		n, sure := got.Size(name)
		b, _ := got.Read(name)
		wantB, _ := want.Read(name)
		if wantN, wantSure := want.Size(name); n != wantN || sure != wantSure || string(b) != string(wantB) {
			t.Errorf("%s: %s has %d bytes, %d sure, %q, want %d, %d, %q", what, name, n, sure, show(b), wantN, wantSure, show(wantB))
		}
	}
}

func TestBootFromNothing(t *testing.T) {
	for nodes := 1; nodes <= 7; nodes++ {
		for id := range nodes {
			for _, keep := range []int{0, 1, 64} {
				d := files.New()
				n, e := node.Boot(d, id, nodes, keep)
				want(t, "Boot", e, api.OK)
				stands(t, n, api.Status{Role: follower, Leader: nobody, First: 1})
				x, _ := snap.New(keep)
				if string(n.State().Code()) != string(x.Code()) || len(n.Answers()) != 0 || n.Dead() {
					t.Errorf("State() is %q", n.State().Code())
				}
				if first, base, l := n.Log(); first != 1 || base != 0 || len(l) != 0 {
					t.Errorf("Log() = %d, %d, %s", first, base, show(l))
				}
			}
		}
	}
}

func TestBootRefusesWhatMayNotBe(t *testing.T) {
	good := files.New()
	off := files.New()
	off.Stop(0, 0)
	off.Append("f", nil)
	for _, c := range []struct{ id, nodes, keep int }{
		{-1, 3, 4}, {3, 3, 4}, {4, 3, 4}, {0, 0, 4}, {0, -1, 4}, {-1, 0, 4}, {0, 8, 4}, {7, 8, 4}, {0, 3, -1}, {0, 3, 65}, {math.MinInt, 3, 4}, {math.MaxInt, 3, 4}, {0, math.MaxInt, 4}, {0, math.MinInt, 4}, {0, 3, math.MinInt}, {0, 3, math.MaxInt}, {1 << 32, 3, 4}, {0, 3 + 1<<32, 4}, {0, 3, 4 + 1<<32},
	} {
		for what, d := range map[string]*files.Disk{"no disk": nil, "a disk": good, "a disk without power": off} {
			if n, e := node.Boot(d, c.id, c.nodes, c.keep); n != nil || e != api.ErrArg {
				t.Errorf("Boot of %s, %v: %v, %d, want ErrArg", what, c, n, e)
			}
		}
	}
	if n, e := node.Boot(nil, 0, 3, 4); n != nil || e != api.ErrArg {
		t.Errorf("Boot of no disk: %v, %d", n, e)
	}
	if n, e := node.Boot(off, 0, 3, 4); n != nil || e != api.ErrOff {
		t.Errorf("Boot without power: %v, %d", n, e)
	}
	if len(good.Names()) != 0 {
		t.Errorf("on the disk are %q", good.Names())
	}
}

// past are entries of several terms, which can be done one behind the other.
func past() []api.Entry { return creates(1, 1, 2, 2, 2, 4, 4, 4, 4, 5) }

func TestBootGoesOnWithTheLog(t *testing.T) {
	kept, anew := 0, 0
	for done := range 6 {
		for first := 1; first <= 8; first++ {
			for next := first; next <= 9; next++ {
				for _, other := range []bool{false, true} {
					l := past()[first-1 : next-1]
					goes := first <= done+1 && done+1 <= next
					if other {
						// The entries up to the state's index are of another term, as such that no majority had.
						for i := range l {
							if first+i <= done {
								l[i].Term = 0
							}
						}
						goes = goes && done < first
					}
					var saved []byte
					base := 0
					if done > 0 {
						saved, base = after(t, past()[:done]...).Code(), past()[done-1].Term
					}
					d := diskOf(t, 6, 2, saved, first, l...)
					n := boot(t, d, 1, 3)
					s := api.Start{Id: 1, Nodes: 3, Term: 6, Vote: 2, First: done + 1, Base: base, Commit: done}
					w, e := wal.Open(d.Fork())
					want(t, "Open", e, api.OK)
					if goes {
						kept++
						s.Entries = past()[done : next-1]
						if w.First() != first || w.Next() != next {
							t.Errorf("the log is of %d to %d, want %d, %d", w.First(), w.Next(), first, next)
						}
					} else {
						anew++
						if w.First() != done+1 || w.Next() != done+1 {
							t.Errorf("the log is of %d to %d, want %d", w.First(), w.Next(), done+1)
						}
					}
					holds(t, n, s, past()[:done]...)
					stands(t, n, api.Status{Term: 6, Role: follower, Leader: nobody, First: s.First, Last: s.First + len(s.Entries) - 1, Commit: done, Done: done})
					if on, _ := begins(t, d, 1, 3); !sample.AlikeStarts(on, s) {
						t.Errorf("on the disk is %s, want %s", show(on), show(s))
					}
					// It is a log that goes on.
					step(t, n, entries(0, 1, 6, s.First+len(s.Entries)-1, lastTerm(s), 0, by(sample.Noop(), 6, 0, 0)))
					s.Entries = append(slices.Clip(s.Entries), by(sample.Noop(), 6, 0, 0))
					holds(t, n, s, past()[:done]...)
					holds(t, boot(t, d, 1, 3), s, past()[:done]...)
				}
			}
		}
	}
	if kept < 50 || anew < 50 {
		t.Errorf("%d logs went on, %d began anew", kept, anew)
	}
}

// lastTerm is the term of a start's last entry.
func lastTerm(s api.Start) int {
	if len(s.Entries) == 0 {
		return s.Base
	}
	return s.Entries[len(s.Entries)-1].Term
}

func TestBootWithoutALog(t *testing.T) {
	d := diskOf(t, 3, nobody, after(t, past()[:3]...).Code(), 0)
	n := boot(t, d, 0, 3)
	holds(t, n, api.Start{Nodes: 3, Term: 3, Vote: nobody, First: 4, Base: 2, Commit: 3}, past()[:3]...)
	if w, _ := wal.Open(d); w.First() != 4 || w.Next() != 4 {
		t.Errorf("the log is of %d to %d", w.First(), w.Next())
	}
}

func TestBootHoldsTheSnapshot(t *testing.T) {
	saved := after(t, past()[:3]...).Code()
	n := boot(t, diskOf(t, 4, nobody, saved, 4, past()[3:5]...), 0, 3)
	ticks(t, n, 10)
	step(t, n, voted(1, 0, 5, true))
	got := step(t, n, appended(2, 0, 5, 1, 0, false))
	if len(got) != 1 || !sample.AlikeMsgs(got[0], snapshot(0, 2, 5, 3, 2, saved)) {
		t.Errorf("sent is %s", show(got))
	}
}

// A snapshot that is none, as it is no frame, is as none.
func TestBootWithoutASnapshot(t *testing.T) {
	d := diskOf(t, 4, 1, nil, 1, past()[:3]...)
	d.Append("snap", []byte("torn"))
	holds(t, boot(t, d, 0, 3), api.Start{Nodes: 3, Term: 4, Vote: 1, First: 1, Entries: past()[:3]})
}

func TestBootOfASnapshotOfNothing(t *testing.T) {
	x, _ := snap.New(9)
	d := diskOf(t, 4, 1, x.Code(), 1, past()[:3]...)
	n := boot(t, d, 0, 3)
	if string(n.State().Code()) != string(x.Code()) {
		t.Errorf("State() is %q", n.State().Code())
	}
	stands(t, n, api.Status{Term: 4, Role: follower, Leader: nobody, First: 1, Last: 3})
}

// The images of a snapshot are kept as many as it says; else as many as Boot is told.
func TestBootKeepsImages(t *testing.T) {
	x, _ := snap.New(2)
	for _, e := range past()[:3] {
		x.Do(e)
	}
	d := diskOf(t, 4, 1, x.Code(), 0)
	for _, keep := range []int{0, 1, 64} {
		n, e := node.Boot(d, 0, 3, keep)
		want(t, "Boot", e, api.OK)
		if string(n.State().Code()) != string(x.Code()) {
			t.Errorf("State() is %q", n.State().Code())
		}
		n, e = node.Boot(files.New(), 0, 1, keep)
		want(t, "Boot", e, api.OK)
		ticks(t, n, 10)
		asks(t, n, sample.AskBy(sample.AskCreate("c"), 1, 1))
		for i := 1; i <= 2; i++ {
			known := api.ImageNone
			if i <= 2-keep {
				known = api.ImageExpired
			}
			if _, got, e := n.State().Pre(i); got != known || e != api.OK {
				t.Errorf("of keep %d: Pre(%d) = %d, %d", keep, i, got, e)
			}
		}
	}
}

// bodies answers a disk with a log of bodies, in term 5.
func bodies(t *testing.T, first int, l ...string) *files.Disk {
	t.Helper()
	d := diskOf(t, 5, nobody, nil, first)
	w, _ := wal.Open(d)
	for _, body := range l {
		w.Append([]byte(body))
	}
	want(t, "Sync", w.Sync(), api.OK)
	return d
}

// code is an entry's.
func code(e api.Entry) string {
	b, _ := entry.Encode(e)
	return string(b)
}

func TestBootRefusesWhatCanNotBeLoaded(t *testing.T) {
	good, saved := past(), after(t, past()[:2]...).Code()
	torn := diskOf(t, 5, nobody, saved, 2)
	w, _ := wal.Open(torn)
	w.Append([]byte("x"))
	w.Append([]byte(code(good[2])))
	far, e := snap.Load(distant(10_000_000))
	want(t, "Load", e, api.OK)
	for what, c := range map[string]struct {
		d *files.Disk
		e api.Errno
	}{
		"a snapshot that is none":                      {diskOf(t, 5, nobody, []byte("x"), 0), api.ErrDead},
		"half a snapshot":                              {diskOf(t, 5, nobody, saved[:len(saved)-1], 0), api.ErrDead},
		"an entry that is none":                        {bodies(t, 1, "x"), api.ErrDead},
		"an entry that is none behind others":          {bodies(t, 1, code(good[0]), code(good[1]), ""), api.ErrDead},
		"half an entry":                                {bodies(t, 1, code(good[0])[:3]), api.ErrDead},
		"more than an entry":                           {bodies(t, 1, code(good[0])+"x"), api.ErrDead},
		"an entry that is none, at the state's index":  {torn, api.ErrDead},
		"a snapshot behind which no log begins":        {diskOf(t, 5, nobody, far.Code(), 0), api.ErrDead},
		"terms that fall":                              {bodies(t, 1, code(good[2]), code(good[1])), api.ErrArg},
		"a term above the one that was noted":          {bodies(t, 1, code(by(good[0], 6, 1, 1))), api.ErrArg},
		"a term of the snapshot above the noted one":   {diskOf(t, 1, nobody, after(t, past()[:3]...).Code(), 0), api.ErrArg},
		"a term below the snapshot's":                  {diskOf(t, 5, nobody, after(t, past()[:3]...).Code(), 4, by(good[3], 1, 1, 1)), api.ErrArg},
		"a vote for a node that there is not":          {diskOf(t, 5, 3, nil, 0), api.ErrArg},
		"a vote for a node that there is not, and all": {diskOf(t, 5, 63, saved, 1, good...), api.ErrArg},
	} {
		// What broke off stays, too.
		c.d.Append("vote", []byte("torn"))
		c.d.Append("vote.new", []byte("torn"))
		for _, name := range c.d.Names() {
			if name[:3] == "log" {
				c.d.Append(name, []byte("torn"))
			}
		}
		was := c.d.Fork()
		if n, e := node.Boot(c.d, 0, 3, 4); n != nil || e != c.e {
			t.Errorf("Boot from %s: %v, %d, want %d", what, n, e, c.e)
		}
		alike(t, what, c.d, was)
	}
}

// distant answers a snapshot of a state at a great index, in which nothing stands.
func distant(i int) []byte {
	count := func(n int) (b []byte) {
		for ; n > 127; n >>= 7 {
			b = append(b, byte(n)|128)
		}
		return append(b, byte(n))
	}
	b := append(count(i), 1)
	b = append(append(b, 0), append(count(i), count(i)...)...)
	return append(b, 0, 0)
}

func TestBootBehindADistantSnapshot(t *testing.T) {
	for _, i := range []int{1000, 9_999_999} {
		d := diskOf(t, 5, nobody, distant(i), 0)
		n := boot(t, d, 0, 3)
		stands(t, n, api.Status{Term: 5, Role: follower, Leader: nobody, First: i + 1, Last: i, Commit: i, Done: i})
		step(t, n, entries(1, 0, 5, i, 1, i+1, by(sample.Noop(), 5, 0, 0)))
		n = boot(t, d, 0, 3)
		stands(t, n, api.Status{Term: 5, Role: follower, Leader: nobody, First: i + 1, Last: i + 1, Commit: i, Done: i})
	}
}

// The power goes at each change of a boot: behind a crash it boots to the same.
func TestThePowerGoesWhileItBoots(t *testing.T) {
	saved := after(t, past()[:5]...).Code()
	make := func() *files.Disk {
		// The log ends ahead of the state; ahead of it is a hole, and something broke off everywhere.
		d := diskOf(t, 5, nobody, saved, 1, append(past()[:3], slices.Repeat([]api.Entry{by(sample.Noop(), 2, 0, 0)}, 18)...)...)
		d.Append("vote", []byte("torn"))
		d.Append("vote.new", []byte("torn"))
		d.Append("log00000017", []byte("torn"))
		d.Append("log00000030", []byte("torn"))
		w, _ := wal.Open(d.Fork())
		if w.Next() != 22 {
			t.Fatal("the log is of", w.Next())
		}
		b, _ := d.Read("log00000001")
		d.Cut("log00000001", len(b)-1)
		return d
	}
	s := api.Start{Nodes: 3, Term: 5, Vote: nobody, First: 6, Base: 2, Entries: slices.Repeat([]api.Entry{by(sample.Noop(), 2, 0, 0)}, 2), Commit: 5}
	holds(t, boot(t, make(), 0, 3), s, past()[:5]...)
	for _, torn := range []int{0, 1, 1 << 20} {
		for changes := 0; ; changes++ {
			d := make()
			d.Stop(changes, torn)
			n, e := node.Boot(d, 0, 3, 4)
			if e == api.OK {
				if changes < 5 {
					t.Errorf("a boot is just %d changes", changes)
				}
				break
			}
			if n != nil || e != api.ErrOff || !d.Off() {
				t.Errorf("the power goes at change %d: %v, %d", changes, n, e)
			}
			d.Crash(nil)
			holds(t, boot(t, d, 0, 3), s, past()[:5]...)
		}
	}
}

func TestBootFromADiskWithoutRoom(t *testing.T) {
	d := diskOf(t, 5, nobody, after(t, past()[:3]...).Code(), 0)
	for i := len(d.Names()); i < api.MaxFiles; i++ {
		d.Append(fmt.Sprint("f", i), nil)
	}
	if n, e := node.Boot(d, 0, 3, 4); n != nil || e != api.ErrFull {
		t.Errorf("Boot: %v, %d, want ErrFull", n, e)
	}
	d.Remove("f9")
	boot(t, d, 0, 3)
}

// What was noted last is what a node boots with.
func TestBootsAgain(t *testing.T) {
	n, d := ofThree(t)
	asks(t, n, sample.AskBy(sample.AskCreate("c1"), 1, 1))
	step(t, n, appended(1, 0, 1, 2, 0, true))
	s := api.Start{Nodes: 3, Term: 1, Vote: 0, First: 1, Entries: []api.Entry{by(sample.Noop(), 1, 0, 0), by(sample.Create("c1"), 1, 1, 1)}}
	for range 3 {
		d.Crash(nil)
		n = boot(t, d, 0, 3)
		holds(t, n, s)
		stands(t, n, api.Status{Term: 1, Role: follower, Leader: nobody, First: 1, Last: 2})
		v, _ := vote.Open(d.Fork())
		if v.Term() != 1 || v.For() != 0 {
			t.Errorf("it votes in term %d for %d", v.Term(), v.For())
		}
	}
	step(t, n, wishes(2, 0, 3, 9, 9))
	d.Crash(nil)
	if got := step(t, boot(t, d, 0, 3), wishes(1, 0, 3, 9, 9)); len(got) != 1 || got[0].Ok {
		t.Errorf("it votes twice: %s", show(got))
	}
}
