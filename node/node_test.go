package node_test

import (
	"fmt"
	"math"
	"slices"
	"testing"

	"tributary/api"
	"tributary/entry"
	"tributary/files"
	"tributary/node"
	"tributary/raft"
	"tributary/sample"
	"tributary/snap"
	"tributary/vote"
	"tributary/wal"
)

const (
	follower, candidate, leader = api.RoleFollower, api.RoleCandidate, api.RoleLeader
	nobody                      = api.NoNode
	mostTerm                    = 1 << 40
)

// The makers of values, requests and entries, by short names.
var (
	null, number, text, array = sample.Null(), sample.Number, sample.Text, sample.Array
	item, doc                 = sample.Item, sample.Doc
	by                        = sample.By
)

// show is how a failed test tells of what may be long.
func show(x any) string { return fmt.Sprintf("%.400s", fmt.Sprint(x)) }

// want asks for an error's number.
func want(t *testing.T, what string, e, want api.Errno) {
	t.Helper()
	if e != want {
		t.Errorf("%.200s: %d, want %d", what, e, want)
	}
}

// boot answers the node that boots from a disk.
func boot(t *testing.T, d *files.Disk, id, nodes int) *node.Node {
	t.Helper()
	n, e := node.Boot(d, id, nodes, 4)
	if e != api.OK || n == nil {
		t.Fatalf("Boot(%d of %d): %d", id, nodes, e)
	}
	return n
}

// alone answers a node that leads itself alone, and its disk.
func alone(t *testing.T) (*node.Node, *files.Disk) {
	t.Helper()
	d := files.New()
	n := boot(t, d, 0, 1)
	ticks(t, n, 10)
	return n, d
}

// ofThree answers node 0 of three, which leads in term 1; its noop is not committed yet.
func ofThree(t *testing.T) (*node.Node, *files.Disk) {
	t.Helper()
	d := files.New()
	n := boot(t, d, 0, 3)
	ticks(t, n, 10)
	step(t, n, voted(1, 0, 1, true))
	if n.Status().Role != leader {
		t.Fatalf("it does not lead: %v", n.Status())
	}
	return n, d
}

// ticks lets so many pass.
func ticks(t *testing.T, n *node.Node, many int) []api.Msg {
	t.Helper()
	var sent []api.Msg
	for range many {
		l, e := n.Tick()
		want(t, "Tick", e, api.OK)
		sent = append(sent, l...)
	}
	return sent
}

// step answers what is sent behind a message.
func step(t *testing.T, n *node.Node, m api.Msg) []api.Msg {
	t.Helper()
	l, e := n.Step(m)
	want(t, "Step("+show(m)+")", e, api.OK)
	return l
}

// asks answers what is sent behind a request.
func asks(t *testing.T, n *node.Node, a api.Ask) []api.Msg {
	t.Helper()
	l, e := n.Ask(a)
	want(t, "Ask("+show(a)+")", e, api.OK)
	return l
}

// finds answers what is sent behind a read of a document.
func finds(t *testing.T, n *node.Node, session, number int, name string, id api.Value) []api.Msg {
	t.Helper()
	l, e := n.Find(session, number, name, id)
	want(t, "Find", e, api.OK)
	return l
}

// tells asks for the answers that a node has, in order, and that it has them once.
func tells(t *testing.T, n *node.Node, want ...api.Answer) {
	t.Helper()
	if got := n.Answers(); !slices.EqualFunc(got, want, sample.AlikeAnswers) {
		t.Errorf("Answers() = %s, want %s", show(got), show(want))
	}
	if got := n.Answers(); len(got) != 0 {
		t.Errorf("Answers() again = %s", show(got))
	}
}

// stands asks for a status.
func stands(t *testing.T, n *node.Node, want api.Status) {
	t.Helper()
	if got := n.Status(); got != want {
		t.Errorf("Status() = %+v, want %+v", got, want)
	}
}

// The messages.

func voted(from, to, term int, ok bool) api.Msg {
	return api.Msg{Kind: api.MsgVoted, From: from, To: to, Term: term, Ok: ok}
}

func wishes(from, to, term, index, logTerm int) api.Msg {
	return api.Msg{Kind: api.MsgVote, From: from, To: to, Term: term, Index: index, LogTerm: logTerm}
}

func entries(from, to, term, index, logTerm, commit int, l ...api.Entry) api.Msg {
	return api.Msg{Kind: api.MsgAppend, From: from, To: to, Term: term, Index: index, LogTerm: logTerm, Commit: commit, Entries: l}
}

func appended(from, to, term, index, round int, ok bool) api.Msg {
	return api.Msg{Kind: api.MsgAppended, From: from, To: to, Term: term, Index: index, Round: round, Ok: ok}
}

func snapshot(from, to, term, index, logTerm int, b []byte) api.Msg {
	return api.Msg{Kind: api.MsgSnap, From: from, To: to, Term: term, Index: index, LogTerm: logTerm, Snap: b}
}

// The entries, and what they make.

// creates answers entries of these terms, each of which makes a collection.
func creates(terms ...int) []api.Entry {
	var l []api.Entry
	for i, term := range terms {
		l = append(l, by(sample.Create(fmt.Sprint("c", i+1)), term, 1, i+1))
	}
	return l
}

// after answers the state that entries make.
func after(t *testing.T, l ...api.Entry) *snap.State {
	t.Helper()
	x, e := snap.New(4)
	want(t, "New", e, api.OK)
	for _, entry := range l {
		want(t, "Do", x.Do(entry), api.OK)
	}
	return x
}

// diskOf answers a disk on which a node has a term and a vote, perhaps a snapshot, and a log.
func diskOf(t *testing.T, term, node int, saved []byte, first int, l ...api.Entry) *files.Disk {
	t.Helper()
	d := files.New()
	v, e := vote.Open(d)
	want(t, "Open", e, api.OK)
	want(t, "Set", v.Set(term, node), api.OK)
	if len(saved) > 0 {
		want(t, "Save", vote.Save(d, saved), api.OK)
	}
	if first > 0 {
		w, e := wal.Open(d)
		want(t, "Open", e, api.OK)
		want(t, "Begin", w.Begin(first), api.OK)
		for _, x := range l {
			b, e := entry.Encode(x)
			want(t, "Encode", e, api.OK)
			_, e = w.Append(b)
			want(t, "Append", e, api.OK)
		}
		want(t, "Sync", w.Sync(), api.OK)
	}
	return d
}

// holds asks what a node is, by its raft's start, and by what is done; the snapshot is of the first entries.
func holds(t *testing.T, n *node.Node, s api.Start, all ...api.Entry) {
	t.Helper()
	x := after(t, all...)
	if got := n.State(); string(got.Code()) != string(x.Code()) {
		t.Errorf("State() is at %d, %q, want %d, %q", got.Index(), show(got.Code()), x.Index(), show(x.Code()))
	}
	status := n.Status()
	if status.Term != s.Term || status.First != s.First || status.Last != s.First+len(s.Entries)-1 || status.Commit != s.Commit || status.Done != x.Index() {
		t.Errorf("Status() = %+v, want %s, done %d", status, show(s), x.Index())
	}
	first, base, l := n.Log()
	if first != s.First || base != s.Base || !sample.AlikeLogs(l, s.Entries[:x.Index()+1-s.First]) {
		t.Errorf("Log() = %d, %d, %s, want %s up to %d", first, base, show(l), show(s), x.Index())
	}
}

// begins answers what a disk says a node begins with, and the snapshot.
func begins(t *testing.T, d *files.Disk, id, nodes int) (api.Start, string) {
	t.Helper()
	d = d.Fork()
	v, e := vote.Open(d)
	want(t, "votes", e, api.OK)
	b, e := vote.Load(d)
	x, _ := snap.New(4)
	if e == api.OK {
		x, e = snap.Load(b)
		want(t, "Load", e, api.OK)
	}
	w, e := wal.Open(d)
	want(t, "log", e, api.OK)
	i := x.Index()
	s := api.Start{Id: id, Nodes: nodes, Term: v.Term(), Vote: v.For(), First: i + 1, Base: x.Term(), Commit: i}
	if i+1 < w.First() || i+1 > w.Next() {
		t.Errorf("a log from %d to %d, and a snapshot of %d", w.First(), w.Next(), i)
	}
	for i++; i < w.Next(); i++ {
		b, _ := w.Get(i)
		e, no := entry.Decode(b)
		want(t, "Decode", no, api.OK)
		s.Entries = append(s.Entries, e)
	}
	return s, string(b)
}

// P24.1: Tick and Step are the Raft's.

func TestANodeSendsWhatItsRaftSends(t *testing.T) {
	chance, found := sample.Chance(24), map[int]int{}
	for range 100 {
		nodes := 2 + chance.Below(4)
		id := chance.Below(nodes)
		d := files.New()
		n := boot(t, d, id, nodes)
		r, _ := raft.New(api.Start{Id: id, Nodes: nodes, Vote: nobody, First: 1})
		for range 80 {
			var got, sent []api.Msg
			if chance.Below(3) == 0 {
				for range 1 + chance.Below(15) {
					got, sent = append(got, ticks(t, n, 1)...), append(sent, r.Tick()...)
				}
			} else {
				m := anyMsg(&chance, r)
				l, e := r.Step(m)
				want(t, "Step", e, api.OK)
				got, sent = step(t, n, m), l
			}
			if !slices.EqualFunc(got, sent, sample.AlikeMsgs) {
				t.Fatalf("sent is %s, want %s", show(got), show(sent))
			}
			s := r.State()
			stands(t, n, api.Status{Term: s.Term, Role: r.Role(), Leader: r.Leader(), First: 1, Last: r.Last(), Commit: s.Commit, Done: s.Commit})
			holds(t, n, s, s.Entries[:s.Commit]...)
			if on, _ := begins(t, d, id, nodes); on.Term != s.Term || on.Vote != s.Vote || !sample.AlikeLogs(on.Entries, s.Entries) {
				t.Fatalf("on the disk is %s, want %s", show(on), show(s))
			}
			for _, m := range sent {
				found[m.Kind]++
			}
		}
	}
	for kind := api.MsgVote; kind <= api.MsgAppended; kind++ {
		if found[kind] < 100 {
			t.Errorf("just so many of kind %d: %d", kind, found[kind])
		}
	}
}

// anyMsg answers a message by chance, such as the others send.
func anyMsg(c *sample.Chance, r *raft.Raft) api.Msg {
	s := r.State()
	m := api.Msg{Kind: 1 + c.Below(4), From: (s.Id + 1 + c.Below(s.Nodes-1)) % s.Nodes, To: s.Id, Term: max(1, s.Term+c.Below(8)/7)}
	i := max(s.Commit, r.Last()-c.Below(4))
	near, _ := r.TermAt(i)
	switch m.Kind {
	case api.MsgVote:
		m.Index, m.LogTerm = i, near
	case api.MsgVoted:
		m.Ok = true
	case api.MsgAppend:
		m.Index, m.LogTerm, m.Commit, m.Round = i, near, s.Commit+c.Below(3), c.Below(3)
		for range c.Below(4) {
			i++
			m.Entries = append(m.Entries, by(sample.Create(fmt.Sprint("c", i%16)), m.Term, 1, i))
			if i > 16 {
				m.Entries[len(m.Entries)-1] = by(sample.Noop(), m.Term, 0, 0)
			}
		}
	case api.MsgAppended:
		m.Index, m.Round, m.Ok = i, c.Below(3), c.Below(3) > 0
	}
	return m
}

func TestStepRefuses(t *testing.T) {
	n, _ := ofThree(t)
	was := n.Status()
	for _, m := range []api.Msg{{}, voted(1, 0, 0, true), voted(1, 2, 9, true), voted(3, 0, 9, true), entries(1, 0, 9, 0, 0, 0, creates(2, 1)...), snapshot(1, 0, 9, 0, 1, []byte("b"))} {
		if l, e := n.Step(m); len(l) != 0 || e != api.ErrArg {
			t.Errorf("Step(%s) = %s, %d, want ErrArg", show(m), show(l), e)
		}
		stands(t, n, was)
	}
	if n.Dead() {
		t.Error("it is dead")
	}
}

// State is a fork, and what is answered is new memory.

func TestWhatIsAnsweredIsNotKept(t *testing.T) {
	n, _ := alone(t)
	doc := item(number(1), array(null))
	asks(t, n, sample.AskBy(sample.AskCreate("c"), 1, 1))
	asks(t, n, sample.AskBy(sample.AskInsert("c", doc), 1, 2))
	tells(t, n, api.Answer{Session: 1, Number: 1, Index: 2}, api.Answer{Session: 1, Number: 2, Index: 3})
	x := n.State()
	want(t, "Do", x.Do(by(sample.DropAll("c"), 1, 0, 0)), api.OK)
	all := []api.Entry{by(sample.Noop(), 1, 0, 0), by(sample.Create("c"), 1, 1, 1), by(sample.Insert("c", doc), 1, 1, 2)}
	s := api.Start{Nodes: 1, Term: 1, First: 1, Entries: all, Commit: 3}
	for range 2 {
		holds(t, n, s, all...)
		_, _, l := n.Log()
		sample.SpoilLog(l)
		finds(t, n, 1, 3, "c", number(1))
		got := n.Answers()
		if len(got) != 1 || !sample.AlikeAnswers(got[0], api.Answer{Session: 1, Number: 3, Read: true, Index: 3, Value: doc}) {
			t.Errorf("Answers() = %s", show(got))
		}
		for _, a := range got {
			sample.Spoil(a.Value)
		}
	}
}

func TestWhatIsAskedIsNotKept(t *testing.T) {
	n, _ := ofThree(t)
	was := sample.AskBy(sample.AskInsert("c", item(array(number(1)), array(null))), 1, 2)
	a, id := sample.RoomyAsk(was), sample.Roomy(array(number(1)))
	asks(t, n, sample.AskBy(sample.AskCreate("c"), 1, 1))
	asks(t, n, a)
	finds(t, n, 1, 3, "c", id)
	if !sample.UntouchedAsk(a, was) || !sample.Untouched(id, array(number(1))) {
		t.Error("what was asked is changed")
	}
	sample.SpoilAsk(a)
	sample.Spoil(id)
	step(t, n, appended(1, 0, 1, 3, 1, true))
	tells(t, n, api.Answer{Session: 1, Number: 1, Index: 2}, api.Answer{Session: 1, Number: 2, Index: 3}, api.Answer{Session: 1, Number: 3, Read: true, Index: 3, Value: was.Doc})
}

// Log is told up to what is done.
func TestLog(t *testing.T) {
	n, _ := ofThree(t)
	if first, base, l := n.Log(); first != 1 || base != 0 || len(l) != 0 {
		t.Errorf("Log() = %d, %d, %s", first, base, show(l))
	}
	asks(t, n, sample.AskBy(sample.AskCreate("c"), 1, 1))
	step(t, n, appended(1, 0, 1, 1, 0, true))
	all := []api.Entry{by(sample.Noop(), 1, 0, 0), by(sample.Create("c"), 1, 1, 1)}
	holds(t, n, api.Start{Nodes: 3, Term: 1, First: 1, Entries: all, Commit: 1}, all[0])
	step(t, n, appended(2, 0, 1, 2, 0, true))
	holds(t, n, api.Start{Nodes: 3, Term: 1, First: 1, Entries: all, Commit: 2}, all...)
}

func TestNil(t *testing.T) {
	var n *node.Node
	if l, e := n.Tick(); len(l) != 0 || e != api.ErrClosed {
		t.Errorf("Tick() = %v, %d", l, e)
	}
	for _, m := range []api.Msg{{}, voted(1, 0, 1, true)} {
		if l, e := n.Step(m); len(l) != 0 || e != api.ErrClosed {
			t.Errorf("Step() = %v, %d", l, e)
		}
	}
	for _, a := range []api.Ask{{}, sample.AskBy(sample.AskCreate("c"), 1, 1)} {
		if l, e := n.Ask(a); len(l) != 0 || e != api.ErrClosed {
			t.Errorf("Ask() = %v, %d", l, e)
		}
		if l, e := n.Find(a.Session, a.Number, "c", null); len(l) != 0 || e != api.ErrClosed {
			t.Errorf("Find() = %v, %d", l, e)
		}
	}
	want(t, "Compact", n.Compact(), api.ErrClosed)
	first, base, l := n.Log()
	if len(n.Answers()) != 0 || n.Status() != (api.Status{}) || n.State() != nil || first != 0 || base != 0 || len(l) != 0 || n.Dead() {
		t.Error("a nil Node tells something")
	}
}

// P24.2: what is asked for.

func TestANodeAlone(t *testing.T) {
	n, _ := alone(t)
	stands(t, n, api.Status{Term: 1, Role: leader, Leader: 0, First: 1, Last: 1, Commit: 1, Done: 1})
	// Example 1.
	if l := asks(t, n, sample.AskBy(sample.AskCreate("c"), 1, 1)); len(l) != 0 {
		t.Errorf("it sends %s", show(l))
	}
	tells(t, n, api.Answer{Session: 1, Number: 1, Index: 2})
	inc := sample.Ops(sample.Op(api.OpInc, "a", number(3)))
	for i, a := range []api.Ask{
		sample.AskInsert("c", item(number(1), text("t"))), sample.AskUpsert("c", number(2), inc), sample.AskUpdate("c", number(2), inc), sample.AskDelete("c", number(2)), sample.AskCreate("d"), sample.AskDrop("d"), sample.AskRename("c", "d"),
	} {
		asks(t, n, sample.AskBy(a, 1, 2+i))
		tells(t, n, api.Answer{Session: 1, Number: 2 + i, Index: 3 + i})
	}
	// What is refused is told, and nothing is appended.
	for number, c := range map[int]struct {
		a    api.Ask
		code api.Errno
	}{
		21: {sample.AskCreate("d"), api.ErrTwice}, 22: {sample.AskDrop("c"), api.ErrColl}, 23: {sample.AskInsert("d", item(number(1))), api.ErrTwice}, 24: {sample.AskDelete("d", number(2)), api.ErrNone},
		25: {sample.AskUpdate("d", number(1), inc), api.ErrType}, 26: {sample.AskInsert("d", null), api.ErrValue}, 27: {api.Ask{}, api.ErrArg}, 28: {api.Ask{Kind: 8, Coll: "d"}, api.ErrArg},
	} {
		asks(t, n, sample.AskBy(c.a, 2, number))
		tells(t, n, api.Answer{Session: 2, Number: number, Code: c.code, Index: 9})
		// It was not done, so it may come later.
		asks(t, n, sample.AskBy(c.a, 2, number-20))
		tells(t, n, api.Answer{Session: 2, Number: number - 20, Code: c.code, Index: 9})
	}
	stands(t, n, api.Status{Term: 1, Role: leader, Leader: 0, First: 1, Last: 9, Commit: 9, Done: 9})
	// Reads.
	for _, c := range []struct {
		name string
		id   api.Value
		v    api.Value
		code api.Errno
	}{
		{"d", number(1), item(number(1), text("t")), api.OK}, {"d", number(2), api.Value{}, api.ErrNone}, {"c", number(1), api.Value{}, api.ErrColl}, {"", api.Value{}, api.Value{}, api.ErrColl}, {"d", api.Value{}, api.Value{}, api.ErrNone},
	} {
		finds(t, n, 255, mostTerm, c.name, c.id)
		tells(t, n, api.Answer{Session: 255, Number: mostTerm, Read: true, Code: c.code, Index: 9, Value: c.v})
	}
}

func TestWhatWasDoneIsNotDoneAgain(t *testing.T) {
	n, _ := alone(t)
	asks(t, n, sample.AskBy(sample.AskCreate("c"), 7, 5))
	tells(t, n, api.Answer{Session: 7, Number: 5, Index: 2})
	for range 3 {
		asks(t, n, sample.AskBy(sample.AskCreate("c"), 7, 5))
		tells(t, n, api.Answer{Session: 7, Number: 5})
	}
	// The number tells it, whatever else is asked.
	asks(t, n, sample.AskBy(sample.AskDrop("x"), 7, 5))
	asks(t, n, sample.AskBy(api.Ask{}, 7, 5))
	tells(t, n, api.Answer{Session: 7, Number: 5}, api.Answer{Session: 7, Number: 5})
	for number := 1; number < 5; number++ {
		if l, e := n.Ask(sample.AskBy(sample.AskDrop("c"), 7, number)); len(l) != 0 || e != api.ErrOld {
			t.Errorf("Ask of number %d: %s, %d, want ErrOld", number, show(l), e)
		}
	}
	tells(t, n)
	asks(t, n, sample.AskBy(sample.AskDrop("c"), 8, 1))
	tells(t, n, api.Answer{Session: 8, Number: 1, Index: 3})
	// Reads are not counted.
	finds(t, n, 7, 1, "c", null)
	finds(t, n, 7, 9, "c", null)
	asks(t, n, sample.AskBy(sample.AskCreate("c"), 7, 6))
	tells(t, n, api.Answer{Session: 7, Number: 1, Read: true, Code: api.ErrColl, Index: 3}, api.Answer{Session: 7, Number: 9, Read: true, Code: api.ErrColl, Index: 3}, api.Answer{Session: 7, Number: 6, Index: 4})
	stands(t, n, api.Status{Term: 1, Role: leader, First: 1, Last: 4, Commit: 4, Done: 4})
}

func TestAskRefuses(t *testing.T) {
	n, _ := alone(t)
	was := n.Status()
	for _, c := range [][2]int{{0, 1}, {-1, 1}, {256, 1}, {math.MinInt, 1}, {math.MaxInt, 1}, {1 + 1<<32, 1}, {1, 0}, {1, -1}, {1, mostTerm + 1}, {1, math.MinInt}, {1, math.MaxInt}, {0, 0}} {
		if l, e := n.Ask(sample.AskBy(sample.AskCreate("c"), c[0], c[1])); len(l) != 0 || e != api.ErrArg {
			t.Errorf("Ask of %v: %s, %d, want ErrArg", c, show(l), e)
		}
		if l, e := n.Find(c[0], c[1], "c", null); len(l) != 0 || e != api.ErrArg {
			t.Errorf("Find of %v: %s, %d, want ErrArg", c, show(l), e)
		}
	}
	tells(t, n)
	stands(t, n, was)
	for _, c := range [][2]int{{1, 1}, {255, 1}, {1, mostTerm}} {
		asks(t, n, sample.AskBy(sample.AskDrop("c"), c[0], c[1]))
		finds(t, n, c[0], c[1], "c", null)
	}
	if l := n.Answers(); len(l) != 6 {
		t.Errorf("Answers() = %s", show(l))
	}
}

func TestOthersAreNotAsked(t *testing.T) {
	d := files.New()
	n := boot(t, d, 0, 3)
	for _, role := range []int{follower, candidate} {
		for _, session := range []int{0, 1} {
			if l, e := n.Ask(sample.AskBy(sample.AskCreate("c"), session, 1)); len(l) != 0 || e != api.ErrLeader || n.Status().Role != role {
				t.Errorf("Ask: %s, %d, want ErrLeader", show(l), e)
			}
			if l, e := n.Find(session, 1, "c", null); len(l) != 0 || e != api.ErrLeader {
				t.Errorf("Find: %s, %d, want ErrLeader", show(l), e)
			}
		}
		ticks(t, n, 10)
	}
	tells(t, n)
}

// Of three nodes.

func TestARequestWaitsForAMajority(t *testing.T) {
	n, _ := ofThree(t)
	l := asks(t, n, sample.AskBy(sample.AskCreate("c"), 1, 1))
	if len(l) != 2 || len(l[0].Entries) != 2 || l[0].Entries[1].Coll != "c" || l[0].Entries[1].Term != 1 || l[1].To != 2 {
		t.Errorf("sent is %s", show(l))
	}
	// Behind an entry that is not done yet.
	asks(t, n, sample.AskBy(sample.AskInsert("c", item(number(1))), 1, 2))
	asks(t, n, sample.AskBy(sample.AskInsert("c", item(number(1))), 2, 1))
	asks(t, n, sample.AskBy(sample.AskCreate("c"), 1, 2))
	if l, e := n.Ask(sample.AskBy(sample.AskCreate("d"), 1, 1)); len(l) != 0 || e != api.ErrOld {
		t.Errorf("Ask of an older number: %s, %d", show(l), e)
	}
	tells(t, n)
	step(t, n, appended(1, 0, 1, 1, 0, true))
	tells(t, n)
	step(t, n, appended(1, 0, 1, 2, 0, true))
	tells(t, n, api.Answer{Session: 1, Number: 1, Index: 2})
	// What was there already, and what is refused, waits for all that was there then; what is refused for a round, too.
	step(t, n, appended(2, 0, 1, 3, 0, true))
	tells(t, n, api.Answer{Session: 1, Number: 2, Index: 3}, api.Answer{Session: 1, Number: 2})
	step(t, n, appended(1, 0, 1, 3, 0, true))
	tells(t, n)
	step(t, n, appended(1, 0, 1, 3, 1, true))
	tells(t, n, api.Answer{Session: 2, Number: 1, Code: api.ErrTwice, Index: 3})
}

func TestARequestThatIsThereWaitsForTheWholeLog(t *testing.T) {
	n, _ := ofThree(t)
	asks(t, n, sample.AskBy(sample.AskCreate("c"), 1, 1))
	asks(t, n, sample.AskBy(sample.AskCreate("d"), 2, 1))
	if l := asks(t, n, sample.AskBy(sample.AskCreate("c"), 1, 1)); len(l) != 0 {
		t.Errorf("sent is %s", show(l))
	}
	asks(t, n, sample.AskBy(sample.AskCreate("e"), 3, 1))
	step(t, n, appended(1, 0, 1, 2, 0, true))
	tells(t, n, api.Answer{Session: 1, Number: 1, Index: 2})
	step(t, n, appended(1, 0, 1, 3, 0, true))
	tells(t, n, api.Answer{Session: 2, Number: 1, Index: 3}, api.Answer{Session: 1, Number: 1})
	step(t, n, appended(1, 0, 1, 4, 0, true))
	tells(t, n, api.Answer{Session: 3, Number: 1, Index: 4})
}

func TestAReadWaitsForARound(t *testing.T) {
	n, _ := ofThree(t)
	l := finds(t, n, 1, 1, "c", number(1))
	if len(l) != 2 || l[0].Round != 1 || l[1].Round != 1 {
		t.Errorf("sent is %s", show(l))
	}
	// The round is not sure ahead of an entry of its own term.
	step(t, n, appended(1, 0, 1, 0, 1, false))
	tells(t, n)
	step(t, n, appended(1, 0, 1, 1, 0, true))
	tells(t, n, api.Answer{Session: 1, Number: 1, Read: true, Code: api.ErrColl, Index: 1})
	// A read tells what is there when it is answered, and waits for all that was there when it was asked.
	asks(t, n, sample.AskBy(sample.AskCreate("c"), 1, 1))
	finds(t, n, 1, 2, "c", number(1))
	step(t, n, appended(1, 0, 1, 1, 2, true))
	tells(t, n)
	asks(t, n, sample.AskBy(sample.AskInsert("c", item(number(1))), 1, 2))
	step(t, n, appended(1, 0, 1, 3, 0, true))
	tells(t, n, api.Answer{Session: 1, Number: 1, Index: 2}, api.Answer{Session: 1, Number: 2, Read: true, Index: 3, Value: item(number(1))}, api.Answer{Session: 1, Number: 2, Index: 3})
	// Of what is committed a round alone is asked for.
	finds(t, n, 1, 3, "c", number(2))
	step(t, n, appended(2, 0, 1, 0, 2, false))
	tells(t, n)
	step(t, n, appended(2, 0, 1, 0, 3, false))
	tells(t, n, api.Answer{Session: 1, Number: 3, Read: true, Code: api.ErrNone, Index: 3})
}

// What can be answered does not wait for what can not be yet.
func TestAnswersAreGivenWhenTheyCanBe(t *testing.T) {
	n, _ := ofThree(t)
	asks(t, n, sample.AskBy(sample.AskCreate("c"), 1, 1))
	finds(t, n, 1, 2, "c", null)
	asks(t, n, sample.AskBy(sample.AskCreate("c"), 2, 1))
	asks(t, n, sample.AskBy(sample.AskCreate("c"), 1, 1))
	step(t, n, appended(1, 0, 1, 2, 0, true))
	tells(t, n, api.Answer{Session: 1, Number: 1, Index: 2}, api.Answer{Session: 1, Number: 1})
	step(t, n, appended(1, 0, 1, 2, 2, true))
	tells(t, n, api.Answer{Session: 1, Number: 2, Read: true, Code: api.ErrNone, Index: 2}, api.Answer{Session: 2, Number: 1, Code: api.ErrTwice, Index: 2})
}

func TestWhoDoesNotLeadAnyMoreSaysSo(t *testing.T) {
	for _, m := range []api.Msg{voted(1, 0, 2, false), wishes(1, 0, 2, 9, 9), entries(1, 0, 2, 0, 0, 0), entries(1, 0, 2, 3, 1, 3)} {
		n, _ := ofThree(t)
		asks(t, n, sample.AskBy(sample.AskCreate("c"), 1, 1))
		finds(t, n, 1, 2, "c", null)
		asks(t, n, sample.AskBy(sample.AskDrop("x"), 2, 1))
		asks(t, n, sample.AskBy(sample.AskCreate("c"), 1, 1))
		tells(t, n)
		step(t, n, m)
		tells(t, n, api.Answer{Session: 1, Number: 1, Code: api.ErrLeader}, api.Answer{Session: 1, Number: 2, Read: true, Code: api.ErrLeader}, api.Answer{Session: 2, Number: 1, Code: api.ErrLeader}, api.Answer{Session: 1, Number: 1, Code: api.ErrLeader})
		step(t, n, m)
		tells(t, n)
	}
}

func TestWhatAnotherLeaderTakesAwayIsAskedAgain(t *testing.T) {
	n, _ := ofThree(t)
	asks(t, n, sample.AskBy(sample.AskCreate("c"), 1, 1))
	tells(t, n)
	step(t, n, entries(2, 0, 2, 0, 0, 1, by(sample.Noop(), 2, 0, 0)))
	tells(t, n, api.Answer{Session: 1, Number: 1, Code: api.ErrLeader})
	for n.Status().Role != leader {
		ticks(t, n, 1)
		step(t, n, voted(1, 0, n.Status().Term, true))
	}
	asks(t, n, sample.AskBy(sample.AskCreate("c"), 1, 1))
	step(t, n, appended(1, 0, 3, 3, 0, true))
	tells(t, n, api.Answer{Session: 1, Number: 1, Index: 3})
	all := []api.Entry{by(sample.Noop(), 2, 0, 0), by(sample.Noop(), 3, 0, 0), by(sample.Create("c"), 3, 1, 1)}
	holds(t, n, api.Start{Nodes: 3, Term: 3, First: 1, Entries: all, Commit: 3}, all...)
}

func TestSixtyFourWait(t *testing.T) {
	n, _ := ofThree(t)
	asks(t, n, sample.AskBy(sample.AskCreate("c"), 9, 1))
	for i := range 63 {
		switch i % 4 {
		case 0:
			asks(t, n, sample.AskBy(sample.AskInsert("c", item(number(i))), 1, 1+i))
		case 1:
			asks(t, n, sample.AskBy(sample.AskInsert("c", item(number(i-1))), 2, 1+i))
		case 2:
			finds(t, n, 3, 1+i, "c", number(i-2))
		case 3:
			asks(t, n, sample.AskBy(sample.AskCreate("c"), 9, 1))
		}
	}
	was := n.Status()
	for _, a := range []api.Ask{sample.AskBy(sample.AskCreate("d"), 4, 1), sample.AskBy(sample.AskCreate("c"), 9, 1), sample.AskBy(sample.AskCreate("c"), 4, 1), sample.AskBy(sample.AskInsert("c", null), 1, 1)} {
		if l, e := n.Ask(a); len(l) != 0 || e != api.ErrFull {
			t.Errorf("Ask: %s, %d, want ErrFull", show(l), e)
		}
		if l, e := n.Find(4, 1, "c", null); len(l) != 0 || e != api.ErrFull {
			t.Errorf("Find: %s, %d, want ErrFull", show(l), e)
		}
	}
	_, e := n.Ask(sample.AskBy(sample.AskCreate("d"), 0, 1))
	want(t, "Ask of no session", e, api.ErrArg)
	_, e = n.Find(1, 0, "c", null)
	want(t, "Find of no number", e, api.ErrArg)
	stands(t, n, was)
	tells(t, n)
	// One that is answered makes room.
	step(t, n, appended(1, 0, 1, 2, 0, true))
	tells(t, n, api.Answer{Session: 9, Number: 1, Index: 2})
	asks(t, n, sample.AskBy(sample.AskCreate("d"), 4, 1))
	_, e = n.Ask(sample.AskBy(sample.AskCreate("d"), 4, 1))
	want(t, "Ask of one too many", e, api.ErrFull)
	// 16 that are done, 15 that were there already, and the last one wait for no round; 16 that are refused, and 16 reads, wait for one each.
	step(t, n, appended(2, 0, 1, n.Status().Last, 16, true))
	if l := n.Answers(); len(l) != 32+16 {
		t.Errorf("answered are %d: %s", len(l), show(l))
	}
	step(t, n, appended(2, 0, 1, n.Status().Last, 32, true))
	if l := n.Answers(); len(l) != 16 {
		t.Errorf("answered are %d: %s", len(l), show(l))
	}
}

func TestALogWithoutRoom(t *testing.T) {
	n, _ := alone(t)
	for i := range 959 {
		asks(t, n, sample.AskBy([]api.Ask{sample.AskCreate("c"), sample.AskDrop("c")}[i%2], 1, 1+i))
		tells(t, n, api.Answer{Session: 1, Number: 1 + i, Index: 2 + i})
	}
	was := n.Status()
	if l, e := n.Ask(sample.AskBy(sample.AskDrop("c"), 1, 2000)); len(l) != 0 || e != api.ErrFull {
		t.Errorf("Ask: %s, %d, want ErrFull", show(l), e)
	}
	stands(t, n, was)
	tells(t, n)
	// What appends nothing has room.
	asks(t, n, sample.AskBy(sample.AskCreate("c"), 1, 2000))
	asks(t, n, sample.AskBy(sample.AskCreate("c"), 1, 959))
	finds(t, n, 1, 1, "c", null)
	tells(t, n, api.Answer{Session: 1, Number: 2000, Code: api.ErrTwice, Index: 960}, api.Answer{Session: 1, Number: 959}, api.Answer{Session: 1, Number: 1, Read: true, Code: api.ErrNone, Index: 960})
	want(t, "Compact", n.Compact(), api.OK)
	asks(t, n, sample.AskBy(sample.AskDrop("c"), 1, 2000))
	tells(t, n, api.Answer{Session: 1, Number: 2000, Index: 961})
	stands(t, n, api.Status{Term: 1, Role: leader, First: 961, Last: 961, Commit: 961, Done: 961})
}

// A leader whose log is so full that it has no noop of its own is sure of no round; of what is there already it needs none.
func TestAFullLogOfOlderTerms(t *testing.T) {
	l := []api.Entry{by(sample.Create("c"), 1, 1, 1)}
	for range 1023 {
		l = append(l, by(sample.Noop(), 1, 0, 0))
	}
	n := boot(t, diskOf(t, 1, nobody, nil, 1, l...), 0, 3)
	step(t, n, entries(1, 0, 1, 1024, 1, 1024))
	ticks(t, n, 10)
	step(t, n, voted(1, 0, 2, true))
	stands(t, n, api.Status{Term: 2, Role: leader, First: 1, Last: 1024, Commit: 1024, Done: 1024})
	asks(t, n, sample.AskBy(sample.AskCreate("c"), 1, 1))
	tells(t, n, api.Answer{Session: 1, Number: 1})
	asks(t, n, sample.AskBy(sample.AskCreate("c"), 1, 2))
	finds(t, n, 1, 3, "c", null)
	step(t, n, appended(1, 0, 2, 1024, 2, true))
	step(t, n, appended(2, 0, 2, 1024, 2, true))
	tells(t, n)
	if l, e := n.Ask(sample.AskBy(sample.AskDrop("c"), 1, 4)); len(l) != 0 || e != api.ErrFull {
		t.Errorf("Ask: %s, %d, want ErrFull", show(l), e)
	}
	// With room, and an entry of its own, it is.
	want(t, "Compact", n.Compact(), api.OK)
	asks(t, n, sample.AskBy(sample.AskDrop("c"), 1, 4))
	step(t, n, appended(1, 0, 2, 1025, 2, true))
	tells(t, n, api.Answer{Session: 1, Number: 2, Code: api.ErrTwice, Index: 1024}, api.Answer{Session: 1, Number: 3, Read: true, Code: api.ErrColl, Index: 1025}, api.Answer{Session: 1, Number: 4, Index: 1025})
}
