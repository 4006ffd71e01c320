package node_test

import (
	"fmt"
	"slices"
	"strings"
	"testing"

	"tributary/api"
	"tributary/files"
	"tributary/node"
	"tributary/sample"
	"tributary/snap"
	"tributary/vote"
)

// P24.1, P24.3: Compact, snapshots that are taken, and what makes a node dead.

// isDead asks whether each call says that a node is dead, whatever it is given, and whether it tells nothing new.
func isDead(t *testing.T, what string, n *node.Node) {
	t.Helper()
	if !n.Dead() {
		t.Errorf("behind %s it is not dead", what)
	}
	for range 2 {
		if l, e := n.Tick(); len(l) != 0 || e != api.ErrDead {
			t.Errorf("behind %s: Tick() = %s, %d", what, show(l), e)
		}
		for _, m := range []api.Msg{{}, voted(1, 0, 9, true), entries(1, 0, 99, 0, 0, 0)} {
			if l, e := n.Step(m); len(l) != 0 || e != api.ErrDead {
				t.Errorf("behind %s: Step() = %s, %d", what, show(l), e)
			}
		}
		for _, a := range []api.Ask{{}, sample.AskBy(sample.AskCreate("c"), 1, 1)} {
			if l, e := n.Ask(a); len(l) != 0 || e != api.ErrDead {
				t.Errorf("behind %s: Ask() = %s, %d", what, show(l), e)
			}
			if l, e := n.Find(a.Session, a.Number, "c", null); len(l) != 0 || e != api.ErrDead {
				t.Errorf("behind %s: Find() = %s, %d", what, show(l), e)
			}
		}
		want(t, "Compact", n.Compact(), api.ErrDead)
	}
	if l := n.Answers(); len(l) != 0 {
		t.Errorf("behind %s: Answers() = %s", what, show(l))
	}
	n.Status()
	n.State()
	n.Log()
}

func TestCompact(t *testing.T) {
	n, d := alone(t)
	for i := range 19 {
		asks(t, n, sample.AskBy([]api.Ask{sample.AskCreate("c"), sample.AskDrop("c")}[i%2], 1, 1+i))
	}
	all := []api.Entry{by(sample.Noop(), 1, 0, 0)}
	for i := range 19 {
		all = append(all, by([]api.Entry{sample.Create("c"), sample.DropAll("c")}[i%2], 1, 1, 1+i))
	}
	s := api.Start{Nodes: 1, Term: 1, First: 1, Entries: all, Commit: 20}
	holds(t, n, s, all...)
	want(t, "Compact", n.Compact(), api.OK)
	s.First, s.Base, s.Entries = 21, 1, nil
	holds(t, n, s, all...)
	if got := d.Names(); !slices.Equal(got, []string{"log00000017", "snap", "vote"}) {
		t.Errorf("on the disk are %q", got)
	}
	if b, e := vote.Load(d); e != api.OK || string(b) != string(after(t, all...).Code()) {
		t.Errorf("the snapshot is %q, %d", b, e)
	}
	// Then there is nothing to compact, till something more is done.
	was := d.Fork()
	want(t, "Compact", n.Compact(), api.ErrArg)
	alike(t, "Compact", d, was)
	asks(t, n, sample.AskBy(sample.AskDrop("c"), 1, 20))
	all = append(all, by(sample.DropAll("c"), 1, 1, 20))
	s.Entries, s.Commit = all[20:], 21
	holds(t, n, s, all...)
	// Booted again, it is as it was; of what is behind the snapshot it does not know what is committed.
	d.Crash(nil)
	n = boot(t, d, 0, 1)
	s.Commit = 20
	holds(t, n, s, all[:20]...)
	want(t, "Compact", n.Compact(), api.ErrArg)
	ticks(t, n, 10)
	want(t, "Compact", n.Compact(), api.OK)
	stands(t, n, api.Status{Term: 2, Role: leader, First: 23, Last: 22, Commit: 22, Done: 22})
}

func TestCompactOfNothing(t *testing.T) {
	n, d := ofThree(t)
	was := d.Fork()
	want(t, "Compact", n.Compact(), api.ErrArg)
	alike(t, "Compact", d, was)
	if n.Dead() {
		t.Error("it is dead")
	}
	want(t, "Compact", boot(t, files.New(), 0, 1).Compact(), api.ErrArg)
}

// What is not committed stays in the log.
func TestCompactKeepsWhatIsNotCommitted(t *testing.T) {
	n, d := ofThree(t)
	for i := range 9 {
		asks(t, n, sample.AskBy(sample.AskCreate(fmt.Sprint("c", i)), 1, 1+i))
	}
	step(t, n, appended(1, 0, 1, 8, 0, true))
	want(t, "Compact", n.Compact(), api.OK)
	all := []api.Entry{by(sample.Noop(), 1, 0, 0)}
	for i := range 9 {
		all = append(all, by(sample.Create(fmt.Sprint("c", i)), 1, 1, 1+i))
	}
	s := api.Start{Nodes: 3, Term: 1, First: 9, Base: 1, Entries: all[8:], Commit: 8}
	holds(t, n, s, all[:8]...)
	if got := d.Names(); !slices.Equal(got, []string{"log00000009", "snap", "vote"}) {
		t.Errorf("on the disk are %q", got)
	}
	d.Crash(nil)
	holds(t, boot(t, d, 0, 3), s, all[:8]...)
	// The Raft has the snapshot: it is sent to who is behind.
	got := step(t, n, appended(2, 0, 1, 1, 0, false))
	if len(got) != 1 || !sample.AlikeMsgs(got[0], snapshot(0, 2, 1, 8, 1, after(t, all[:8]...).Code())) {
		t.Errorf("sent is %s", show(got))
	}
}

// filled answers a node alone whose snapshot has so many bytes.
func filled(t *testing.T, size int) (*node.Node, *files.Disk) {
	t.Helper()
	n, d := alone(t)
	asks(t, n, sample.AskBy(sample.AskCreate("c"), 1, 1))
	insert := func(i, letters int) api.Ask {
		return sample.AskBy(sample.AskInsert("c", item(number(i), text(strings.Repeat("x", letters)))), 1, 1+i)
	}
	for i := range 16 {
		asks(t, n, insert(1+i, 4000))
	}
	// The last document fills it up.
	x := n.State()
	e, _ := x.Lower(insert(17, 1000))
	e.Term = 1
	want(t, "Do", x.Do(e), api.OK)
	asks(t, n, insert(17, 1000+size-len(x.Code())))
	if got := len(n.State().Code()); got != size {
		t.Fatalf("the snapshot has %d bytes", got)
	}
	n.Answers()
	return n, d
}

func TestCompactOfTooMuch(t *testing.T) {
	n, _ := filled(t, api.MaxBody)
	want(t, "Compact", n.Compact(), api.OK)
	n, d := filled(t, api.MaxBody+1)
	was, status := d.Fork(), n.Status()
	want(t, "Compact", n.Compact(), api.ErrLong)
	alike(t, "Compact", d, was)
	stands(t, n, status)
	asks(t, n, sample.AskBy(sample.AskDelete("c", number(1)), 1, 100))
	// Its image is still kept.
	want(t, "Compact", n.Compact(), api.ErrLong)
	for i := range 4 {
		asks(t, n, sample.AskBy(sample.AskCreate(fmt.Sprint("d", i)), 1, 101+i))
	}
	want(t, "Compact", n.Compact(), api.OK)
}

// Snapshots that are taken.

func TestASnapshotIsTaken(t *testing.T) {
	all := creates(1, 1, 1, 1, 1, 1, 1, 1, 1, 1)
	x := after(t, all...)
	for what, ahead := range map[string][]api.Msg{
		"nothing":                {},
		"entries":                {entries(1, 0, 1, 0, 0, 2, all[:3]...)},
		"entries that clash":     {entries(1, 0, 1, 0, 0, 0, all[:8]...), entries(1, 0, 1, 8, 1, 0, all[8:9]...), entries(1, 0, 2, 9, 1, 0, by(sample.Noop(), 2, 0, 0), by(sample.Noop(), 2, 0, 0))},
		"another snapshot":       {snapshot(1, 0, 1, 4, 1, after(t, all[:4]...).Code())},
		"a snapshot and entries": {snapshot(1, 0, 1, 4, 1, after(t, all[:4]...).Code()), entries(1, 0, 1, 4, 1, 5, all[4:6]...)},
	} {
		d := files.New()
		n := boot(t, d, 0, 3)
		for _, m := range ahead {
			step(t, n, m)
		}
		got := step(t, n, snapshot(2, 0, 3, 10, 1, x.Code()))
		if len(got) != 1 || !sample.AlikeMsgs(got[0], appended(0, 2, 3, 10, 0, true)) {
			t.Errorf("behind %s sent is %s", what, show(got))
		}
		s := api.Start{Nodes: 3, Term: 3, Vote: nobody, First: 11, Base: 1, Commit: 10}
		holds(t, n, s, all...)
		if on, b := begins(t, d, 0, 3); !sample.AlikeStarts(on, s) || b != string(x.Code()) {
			t.Errorf("behind %s on the disk is %s, %q", what, show(on), show(b))
		}
		d.Crash(nil)
		n = boot(t, d, 0, 3)
		holds(t, n, s, all...)
		// It goes on behind it.
		step(t, n, entries(2, 0, 3, 10, 1, 11, by(sample.Create("d"), 3, 1, 99)))
		all := append(slices.Clip(all), by(sample.Create("d"), 3, 1, 99))
		s.Entries, s.Commit = all[10:], 11
		holds(t, n, s, all...)
	}
}

func TestASnapshotThatIsThereIsNotTaken(t *testing.T) {
	all := creates(1, 1, 1, 1, 1)
	x := after(t, all[:4]...)
	for commit := range 6 {
		d := files.New()
		n := boot(t, d, 0, 3)
		step(t, n, entries(1, 0, 1, 0, 0, commit, all...))
		got := step(t, n, snapshot(1, 0, 1, 4, 1, x.Code()))
		commit = max(commit, 4)
		if len(got) != 1 || !sample.AlikeMsgs(got[0], appended(0, 1, 1, commit, 0, true)) {
			t.Errorf("sent is %s", show(got))
		}
		// What it says is committed is done.
		holds(t, n, api.Start{Nodes: 3, Term: 1, Vote: nobody, First: 1, Entries: all, Commit: commit}, all[:commit]...)
		if got := d.Names(); !slices.Equal(got, []string{"log00000001", "vote"}) {
			t.Errorf("on the disk are %q", got)
		}
	}
}

// What can not be done makes a node dead; what was there stays on its disk.
func TestWhatCanNotBeDone(t *testing.T) {
	all := creates(1, 1, 1, 1)
	x := after(t, all...)
	far, no := snap.Load(distant(10_000_000))
	want(t, "Load", no, api.OK)
	var sets []api.Delta
	for i := range 17 {
		sets = append(sets, sample.Set(fmt.Sprint("a", i), text(strings.Repeat("x", 4000))))
	}
	for what, c := range map[string]struct {
		m    api.Msg
		more []api.Entry
	}{
		"a snapshot that is none":              {snapshot(1, 0, 1, 4, 1, []byte("none")), nil},
		"half a snapshot":                      {snapshot(1, 0, 1, 4, 1, x.Code()[:9]), nil},
		"a snapshot of less":                   {snapshot(1, 0, 1, 5, 1, x.Code()), nil},
		"a snapshot of more":                   {snapshot(1, 0, 1, 3, 1, x.Code()), nil},
		"a snapshot of another term":           {snapshot(1, 0, 2, 4, 2, x.Code()), nil},
		"an entry that can not be done":        {entries(1, 0, 1, 2, 1, 3, by(sample.DropAll("x"), 1, 0, 0)), []api.Entry{by(sample.DropAll("x"), 1, 0, 0)}},
		"an entry that is done already":        {entries(1, 0, 1, 2, 1, 4, all[1:3]...), all[1:3]},
		"an entry of too many bytes":           {entries(1, 0, 1, 2, 1, 2, by(sample.Update("c1", null, sets...), 1, 0, 0)), nil},
		"a snapshot behind which no log is":    {snapshot(1, 0, 1, 10_000_000, 1, far.Code()), nil},
		"entries, of which one is of too many": {entries(1, 0, 1, 2, 1, 2, all[2], by(sample.Update("c1", null, sets...), 1, 0, 0)), nil},
	} {
		d := files.New()
		n := boot(t, d, 0, 3)
		step(t, n, entries(1, 0, 1, 0, 0, 2, all[:2]...))
		if l, e := n.Step(c.m); len(l) != 0 || e != api.ErrDead {
			t.Errorf("%s: %s, %d, want ErrDead", what, show(l), e)
		}
		isDead(t, what, n)
		d.Crash(nil)
		if strings.HasPrefix(what, "a snapshot behind") {
			// It is saved, but no node boots from it.
			if n, e := node.Boot(d, 0, 3, 4); n != nil || e != api.ErrDead {
				t.Errorf("behind %s: Boot = %v, %d", what, n, e)
			}
			continue
		}
		s := api.Start{Nodes: 3, Term: c.m.Term, Vote: nobody, First: 1, Entries: append(slices.Clip(all[:2]), c.more...)}
		holds(t, boot(t, d, 0, 3), s)
	}
}

// A leader whose log has what can not be done answers nothing of it.
func TestAskBehindWhatCanNotBeDone(t *testing.T) {
	n := boot(t, files.New(), 0, 3)
	step(t, n, entries(1, 0, 1, 0, 0, 0, by(sample.DropAll("x"), 1, 0, 0)))
	ticks(t, n, 10)
	step(t, n, voted(2, 0, 2, true))
	finds(t, n, 1, 1, "c", null)
	if l, e := n.Ask(sample.AskBy(sample.AskCreate("c"), 1, 1)); len(l) != 0 || e != api.ErrDead {
		t.Errorf("Ask: %s, %d, want ErrDead", show(l), e)
	}
	isDead(t, "Ask", n)
}

// A disk that refuses.

func TestADiskThatRefuses(t *testing.T) {
	for what, call := range map[string]func(n *node.Node) ([]api.Msg, api.Errno){
		"Ask":     func(n *node.Node) ([]api.Msg, api.Errno) { return n.Ask(sample.AskBy(sample.AskCreate("d"), 1, 2)) },
		"Step":    func(n *node.Node) ([]api.Msg, api.Errno) { return n.Step(wishes(1, 0, 9, 9, 9)) },
		"Compact": func(n *node.Node) ([]api.Msg, api.Errno) { return nil, n.Compact() },
		"Tick": func(n *node.Node) ([]api.Msg, api.Errno) {
			// It leads; one that does not stands for election.
			n.Step(voted(1, 0, 2, false))
			for range 9 {
				n.Tick()
			}
			return n.Tick()
		},
	} {
		n, d := ofThree(t)
		step(t, n, appended(1, 0, 1, 1, 0, true))
		asks(t, n, sample.AskBy(sample.AskCreate("c"), 1, 1))
		if what == "Tick" {
			want(t, "Stop", d.Stop(2, 0), api.OK)
		} else {
			want(t, "Stop", d.Stop(0, 0), api.OK)
		}
		if l, e := call(n); len(l) != 0 || e != api.ErrDead {
			t.Errorf("%s: %s, %d, want ErrDead", what, show(l), e)
		}
		if what == "Step" || what == "Tick" {
			n.Answers()
		}
		isDead(t, what, n)
		d.Crash(nil)
		boot(t, d, 0, 3)
	}
	// A disk on which there is no room refuses, too.
	n, d := alone(t)
	for i := len(d.Names()); i < api.MaxFiles; i++ {
		d.Append(fmt.Sprint("f", i), nil)
	}
	for i := range 7 {
		asks(t, n, sample.AskBy(sample.AskCreate(fmt.Sprint("c", i)), 1, 1+i))
	}
	n.Answers()
	if l, e := n.Ask(sample.AskBy(sample.AskCreate("d"), 1, 9)); len(l) != 0 || e != api.ErrDead {
		t.Errorf("Ask where there is no room: %s, %d, want ErrDead", show(l), e)
	}
	isDead(t, "no room", n)
}

// What was told ahead is told by a dead node, too; what waits is not.
func TestADeadNodeTellsWhatItKnew(t *testing.T) {
	n, d := ofThree(t)
	asks(t, n, sample.AskBy(sample.AskCreate("c"), 1, 1))
	step(t, n, appended(1, 0, 1, 2, 0, true))
	asks(t, n, sample.AskBy(sample.AskCreate("d"), 1, 2))
	d.Stop(0, 0)
	if _, e := n.Ask(sample.AskBy(sample.AskCreate("e"), 1, 3)); e != api.ErrDead {
		t.Errorf("Ask: %d", e)
	}
	tells(t, n, api.Answer{Session: 1, Number: 1, Index: 2})
	isDead(t, "Ask", n)
	if s := n.State(); s.Index() != 2 {
		t.Errorf("State() is at %d", s.Index())
	}
}
