package node_test

import (
	"fmt"
	"slices"
	"testing"

	"tributary/api"
	"tributary/files"
	"tributary/node"
	"tributary/sample"
)

// P24.4: the power goes at each change of each call, and the node boots behind it.

// call is one call on a node.
type call struct {
	name string
	do   func(n *node.Node) ([]api.Msg, api.Errno)
}

func stepOf(name string, m api.Msg) call {
	return call{name, func(n *node.Node) ([]api.Msg, api.Errno) { return n.Step(m) }}
}

func askOf(name string, a api.Ask) call {
	return call{name, func(n *node.Node) ([]api.Msg, api.Errno) { return n.Ask(a) }}
}

func tickOf(name string, many int) call {
	return call{name, func(n *node.Node) ([]api.Msg, api.Errno) {
		for range many - 1 {
			if _, e := n.Tick(); e != api.OK {
				return nil, e
			}
		}
		return n.Tick()
	}}
}

func compactOf(name string) call {
	return call{name, func(n *node.Node) ([]api.Msg, api.Errno) { return nil, n.Compact() }}
}

// long are entries of term 1, of which the ninth and tenth are of term 2 in another log.
func long(term int) []api.Entry {
	l := creates(slices.Repeat([]int{1}, 14)...)
	for i := 8; i < len(l); i++ {
		l[i].Term = term
	}
	return l
}

// rows are calls, one behind the other, on node 0 of so many.
var rows = []struct {
	nodes int
	calls []call
}{
	{3, []call{
		stepOf("a vote", wishes(1, 0, 1, 0, 0)), stepOf("entries", entries(1, 0, 1, 0, 0, 0, long(1)[:8]...)), stepOf("more than a segment", entries(1, 0, 1, 8, 1, 4, long(1)[8:12]...)), stepOf("a clash", entries(2, 0, 2, 8, 1, 6, long(2)[8:10]...)),
		stepOf("a clash across segments", entries(1, 0, 3, 6, 1, 6, by(sample.Create("c7"), 3, 1, 7), by(sample.Create("c8"), 3, 1, 8), by(sample.Create("c9"), 3, 1, 9))), stepOf("a commit", entries(1, 0, 3, 9, 3, 9)),
		compactOf("Compact"), stepOf("entries behind it", entries(1, 0, 3, 9, 3, 10, by(sample.Create("d"), 3, 2, 1), by(sample.Create("e"), 3, 2, 2))), stepOf("a snapshot", snapshot(2, 0, 4, 14, 2, nil)),
		stepOf("entries behind a snapshot", entries(2, 0, 4, 14, 2, 16, by(sample.Noop(), 4, 0, 0), by(sample.DropAll("c1"), 4, 3, 1))), compactOf("Compact again"), tickOf("an election", 10),
	}},
	{1, []call{
		tickOf("an election", 10), askOf("a request", sample.AskBy(sample.AskCreate("c"), 1, 1)), askOf("another one", sample.AskBy(sample.AskInsert("c", item(number(1))), 1, 2)), compactOf("Compact"), askOf("one behind it", sample.AskBy(sample.AskDrop("c"), 1, 3)), compactOf("Compact again"),
	}},
}

// before answers a node on which calls were done, its disk, and all that it had told.
func before(t *testing.T, nodes int, calls []call) (*node.Node, *files.Disk, []api.Answer) {
	t.Helper()
	d := files.New()
	n := boot(t, d, 0, nodes)
	for _, c := range calls {
		_, e := c.do(n)
		want(t, c.name, e, api.OK)
	}
	return n, d, n.Answers()
}

// filledRows are the rows, with the snapshot that one of them tells of.
func filledRows(t *testing.T) {
	t.Helper()
	b := after(t, long(2)...).Code()
	for i, c := range rows[0].calls {
		if c.name == "a snapshot" {
			rows[0].calls[i] = stepOf(c.name, snapshot(2, 0, 4, 14, 2, b))
		}
	}
}

// isEither asks whether what a node begins with is what it was ahead of a call, or behind it, or what lies between.
func isEither(t *testing.T, what string, got, old, new api.Start) {
	t.Helper()
	vote := got.Term == old.Term && got.Vote == old.Vote || got.Term == new.Term && got.Vote == new.Vote
	behind := func(s api.Start) bool {
		return got.First == s.First && got.Base == s.Base && got.Commit == s.Commit && len(got.Entries) <= len(s.Entries) && sample.AlikeLogs(got.Entries, s.Entries[:len(got.Entries)])
	}
	if !vote || !behind(old) && !behind(new) {
		t.Errorf("%s: it begins with %s, was %s, is to be %s", what, show(got), show(old), show(new))
	}
	// What is not cut stays.
	grows := old.First == new.First && len(old.Entries) <= len(new.Entries) && sample.AlikeLogs(old.Entries, new.Entries[:len(old.Entries)])
	if got.First == old.First && (grows || old.First != new.First) && len(got.Entries) < len(old.Entries) {
		t.Errorf("%s: it begins with %s, and lost what was %s", what, show(got), show(old))
	}
}

func TestThePowerGoesAtEachChange(t *testing.T) {
	filledRows(t)
	all := 0
	for _, row := range rows {
		for k, c := range row.calls {
			for _, torn := range []int{0, 1, 9, 1 << 20} {
				for _, keep := range []int{0, 1, 1 << 20} {
					for changes := 0; ; changes++ {
						what := fmt.Sprint(c.name, " at change ", changes, ", torn ", torn, ", kept ", keep)
						n, d, _ := before(t, row.nodes, row.calls[:k])
						old, _ := begins(t, d, 0, row.nodes)
						committed := n.State()
						want(t, "Stop", d.Stop(changes, torn), api.OK)
						sent, e := c.do(n)
						if e == api.OK {
							break
						}
						all++
						if e != api.ErrDead || len(sent) != 0 || !d.Off() {
							t.Fatalf("%s: %s, %d; the power is gone: %v", what, show(sent), e, d.Off())
						}
						isDead(t, what, n)
						var l []api.Keep
						for _, name := range d.Names() {
							l = append(l, api.Keep{Name: name, N: keep})
						}
						want(t, "Crash", d.Crash(l), api.OK)

						twin, after, _ := before(t, row.nodes, row.calls[:k+1])
						new, _ := begins(t, after, 0, row.nodes)
						n = boot(t, d, 0, row.nodes)
						got, _ := begins(t, d, 0, row.nodes)
						isEither(t, what, got, old, new)
						// What was done is there: in the state, or in the log.
						if last := got.First + len(got.Entries) - 1; last < committed.Index() {
							t.Errorf("%s: %d were done, and there are %d", what, committed.Index(), last)
						}
						x := n.State()
						for i := x.Index(); i < committed.Index(); i++ {
							want(t, "Do", x.Do(got.Entries[i+1-got.First]), api.OK)
						}
						if x.Index() == committed.Index() && string(x.Code()) != string(committed.Code()) {
							t.Errorf("%s: what was done is %q, was %q", what, show(x.Code()), show(committed.Code()))
						}
						goesOn(t, what, n, d, row.nodes, c, twin, new)
					}
				}
			}
		}
	}
	if all < 500 {
		t.Errorf("the power went just %d times", all)
	}
}

// goesOn asks whether a node that booted comes, by the call that was broken off, to what it is to be.
func goesOn(t *testing.T, what string, n *node.Node, d *files.Disk, nodes int, c call, twin *node.Node, new api.Start) {
	t.Helper()
	if nodes == 1 {
		// It leads again, in a new term, and what it has is committed.
		for n.Status().Role != leader {
			ticks(t, n, 1)
		}
		if s := n.Status(); s.Done != s.Last || s.Done <= new.Commit {
			t.Errorf("%s: it leads, and stands %v", what, s)
		}
		return
	}
	if c.name == "Compact" || c.name == "Compact again" || c.name == "an election" {
		return
	}
	_, e := c.do(n)
	want(t, what+", again", e, api.OK)
	got, _ := begins(t, d, 0, nodes)
	if !sample.AlikeStarts(got, new) {
		t.Errorf("%s: again it begins with %s, want %s", what, show(got), show(new))
	}
	if twin.Status().Term != n.Status().Term || twin.Status().Last != n.Status().Last {
		t.Errorf("%s: again it stands %v, want %v", what, n.Status(), twin.Status())
	}
}

// A file of votes that is full is made anew: the power may go there, too.
func TestThePowerGoesAtTheThirtyThirdVote(t *testing.T) {
	for changes := 0; ; changes++ {
		d := files.New()
		n := boot(t, d, 0, 3)
		for term := 1; term <= 32; term++ {
			step(t, n, wishes(1, 0, term, 0, 0))
		}
		d.Stop(changes, 3)
		l, e := n.Step(wishes(2, 0, 33, 0, 0))
		d.Crash(nil)
		s, _ := begins(t, d, 0, 3)
		n = boot(t, d, 0, 3)
		if e == api.OK {
			if changes < 3 || len(l) != 1 || !l[0].Ok || s.Term != 33 || s.Vote != 2 {
				t.Errorf("behind %d changes: %s, %s", changes, show(l), show(s))
			}
			return
		}
		if e != api.ErrDead || s.Term != 32 || s.Vote != 1 {
			t.Errorf("the power went at change %d: %d, %s", changes, e, show(s))
		}
		if l := step(t, n, wishes(2, 0, 33, 0, 0)); len(l) != 1 || !l[0].Ok {
			t.Errorf("it sends %s", show(l))
		}
	}
}

// What was answered OK is there, wherever the power goes behind it.
func TestWhatWasAnsweredIsThere(t *testing.T) {
	for changes := 0; ; changes++ {
		d := files.New()
		n := boot(t, d, 0, 1)
		ticks(t, n, 10)
		d.Stop(changes, 5)
		told := 0
		for i := 1; ; i++ {
			if _, e := n.Ask(sample.AskBy(sample.AskCreate(fmt.Sprint("c", i)), 1, i)); e != api.OK || i > 15 {
				break
			}
			if i%4 == 0 {
				n.Compact()
			}
			for _, a := range n.Answers() {
				if a.Code == api.OK {
					told = a.Number
				}
			}
		}
		if !n.Dead() {
			if told < 15 {
				t.Errorf("told are %d", told)
			}
			return
		}
		d.Crash(nil)
		n = boot(t, d, 0, 1)
		ticks(t, n, 10)
		for i := 1; i <= told; i++ {
			finds(t, n, 2, i, fmt.Sprint("c", i), null)
			tells(t, n, api.Answer{Session: 2, Number: i, Read: true, Code: api.ErrNone, Index: n.Status().Done})
		}
		if last := n.State().Last(1); last < told || last > told+1 {
			t.Errorf("told are %d, there are %d", told, last)
		}
	}
}
