package cluster_test

import (
	"fmt"
	"math"
	"slices"
	"testing"

	"tributary/api"
	"tributary/cluster"
	"tributary/coll"
	"tributary/sample"
)

const (
	follower, candidate, leader = api.RoleFollower, api.RoleCandidate, api.RoleLeader
	nobody                      = api.NoNode
)

// show is how a failed test tells of what may be long.
func show(x any) string { return fmt.Sprintf("%.400s", fmt.Sprintf("%+v", x)) }

// made answers a cluster, whose images are of the last 4 entries.
func made(t *testing.T, nodes int) *cluster.Cluster {
	t.Helper()
	c, e := cluster.New(nodes, 4)
	if e != api.OK || c == nil {
		t.Fatalf("New(%d): %d", nodes, e)
	}
	return c
}

// led answers a cluster that node 0 leads in term 1; its noop is committed everywhere.
func led(t *testing.T, nodes int) *cluster.Cluster {
	t.Helper()
	c := made(t, nodes)
	c.Settle(13)
	for id := range nodes {
		role := follower
		if id == 0 {
			role = leader
		}
		stands(t, c, id, api.Status{Term: 1, Role: role, First: 1, Last: 1, Commit: 1, Done: 1})
	}
	return c
}

// does does a step that must show a code, and answers what it showed besides.
func does(t *testing.T, c *cluster.Cluster, a api.Act, code api.Errno) api.Told {
	t.Helper()
	got := c.Do(a)
	if got.Code != code {
		t.Errorf("%s: %d, want %d", show(a), got.Code, code)
	}
	if code != api.OK && len(got.Events) > 0 || len(got.Nodes) != len(got.Answers) {
		t.Errorf("%s shows %s", show(a), show(got))
	}
	return got
}

// stands asks for a status.
func stands(t *testing.T, c *cluster.Cluster, id int, want api.Status) {
	t.Helper()
	if got := c.Status(id); got != want {
		t.Errorf("node %d stands %+v, want %+v", id, got, want)
	}
}

// arrives lets all messages arrive, the eldest one first, and answers what was answered.
func arrives(t *testing.T, c *cluster.Cluster) []api.Answer {
	t.Helper()
	var l []api.Answer
	for c.Bag() > 0 {
		l = append(l, does(t, c, api.Act{Kind: api.ActArrive}, api.OK).Answers...)
	}
	return l
}

// asked is a step that asks a node for something.
func asked(id int, a api.Ask, session, number int) api.Act {
	return api.Act{Kind: api.ActAsk, Node: id, Ask: sample.AskBy(a, session, number)}
}

// found is a step that asks a node for a document.
func found(id int, coll string, doc api.Value, session, number int) api.Act {
	return api.Act{Kind: api.ActFind, Node: id, Ask: api.Ask{Coll: coll, Id: doc, Session: session, Number: number}}
}

// at is a step of a node.
func at(kind, id int) api.Act { return api.Act{Kind: kind, Node: id} }

// dead answers a cluster of three that node 0 leads, of which another node is dead.
func dead(t *testing.T, id int) *cluster.Cluster {
	t.Helper()
	c := led(t, 3)
	kill(t, c, id)
	return c
}

// kill makes a node that does not lead dead: it stands for election, and can not note its vote.
func kill(t *testing.T, c *cluster.Cluster, id int) {
	t.Helper()
	does(t, c, at(api.ActStop, id), api.OK)
	for i := 0; c.Up(id) && i < 99; i++ {
		c.Do(at(api.ActTick, id))
	}
	nothing(t, c, id)
}

// nothing asks whether nothing is told of a node.
func nothing(t *testing.T, c *cluster.Cluster, id int) {
	t.Helper()
	first, base, l := c.Log(id)
	if c.Up(id) || c.Status(id) != (api.Status{}) || first != 0 || base != 0 || len(l) != 0 || len(c.Base(id)) != 0 {
		t.Errorf("node %d: up is %t, it stands %+v, its log is %d, %d, %s, its base %q", id, c.Up(id), c.Status(id), first, base, show(l), c.Base(id))
	}
}

// Example 1.
func TestExample(t *testing.T) {
	c := made(t, 3)
	for range 10 {
		for id := range 3 {
			does(t, c, at(api.ActTick, id), api.OK)
		}
	}
	arrives(t, c)
	stands(t, c, 0, api.Status{Term: 1, Role: leader, First: 1, Last: 1, Commit: 1, Done: 1})
	for id := 1; id < 3; id++ {
		stands(t, c, id, api.Status{Term: 1, Role: follower, First: 1, Last: 1})
	}
}

// P26.1: New, and what is told of a cluster.

func TestNew(t *testing.T) {
	for nodes := 1; nodes <= 7; nodes++ {
		for _, keep := range []int{0, 1, 2, 63, 64} {
			c, e := cluster.New(nodes, keep)
			if e != api.OK || c.Nodes() != nodes || c.Bag() != 0 {
				t.Errorf("New(%d, %d): %d, of %d nodes, with %d messages", nodes, keep, e, c.Nodes(), c.Bag())
			}
			if m, e := c.Next(); e != api.ErrNone || !sample.AlikeMsgs(m, api.Msg{}) {
				t.Errorf("Next() = %s, %d", show(m), e)
			}
			for id := range nodes {
				stands(t, c, id, api.Status{Role: follower, Leader: nobody, First: 1})
				first, base, l := c.Log(id)
				if !c.Up(id) || first != 1 || base != 0 || len(l) != 0 || string(c.Base(id)) != string(coll.New().Code()) {
					t.Errorf("node %d of %d: up is %t, its log is %d, %d, %s, its base %q", id, nodes, c.Up(id), first, base, show(l), c.Base(id))
				}
			}
			for _, id := range []int{-1, nodes, 7, 8, math.MinInt, math.MaxInt, 1 << 32, -1 << 32} {
				nothing(t, c, id)
			}
			for _, place := range []int{0, 1, 15, -1, 16, math.MinInt, math.MaxInt, 1 << 32} {
				if b := c.Token(place); len(b) != 0 {
					t.Errorf("Token(%d) = %q", place, b)
				}
			}
		}
	}
}

func TestNewRefusesWhatMayNotBe(t *testing.T) {
	for _, x := range [][2]int{
		{0, 4}, {-1, 4}, {8, 4}, {9, 4}, {math.MinInt, 4}, {math.MaxInt, 4}, {1<<32 + 1, 4}, {1, -1}, {1, 65}, {3, math.MinInt}, {3, math.MaxInt}, {3, 1 << 32}, {0, -1}, {8, 65},
	} {
		if c, e := cluster.New(x[0], x[1]); c != nil || e != api.ErrArg {
			t.Errorf("New(%d, %d): %d, want ErrArg", x[0], x[1], e)
		}
	}
}

func TestNilCluster(t *testing.T) {
	var c *cluster.Cluster
	for kind := -1; kind <= 15; kind++ {
		if got := c.Do(at(kind, 0)); !sample.AlikeTold(got, api.Told{Code: api.ErrClosed}) {
			t.Errorf("kind %d shows %s", kind, show(got))
		}
	}
	for _, i := range []int{-1, 0, 1} {
		nothing(t, c, i)
		if len(c.Token(i)) != 0 || len(c.Settle(i)) != 0 {
			t.Errorf("Token(%d) = %q", i, c.Token(i))
		}
	}
	if m, e := c.Next(); e != api.ErrClosed || !sample.AlikeMsgs(m, api.Msg{}) || c.Nodes() != 0 || c.Bag() != 0 {
		t.Errorf("Next() = %s, %d", show(m), e)
	}
	if l := c.Run(cluster.Put(nil, at(api.ActTick, 0))); len(l) != 0 {
		t.Errorf("Run shows %s", show(l))
	}
}

func TestStatusLogAndBase(t *testing.T) {
	c := led(t, 3)
	does(t, c, asked(0, sample.AskCreate("c"), 1, 1), api.OK)
	stands(t, c, 0, api.Status{Term: 1, Role: leader, First: 1, Last: 2, Commit: 1, Done: 1})
	// What is not done yet is not told.
	if first, base, l := c.Log(0); first != 1 || base != 0 || len(l) != 1 {
		t.Errorf("Log(0) = %d, %d, %s", first, base, show(l))
	}
	arrives(t, c)
	all := []api.Entry{sample.By(sample.Noop(), 1, 0, 0), sample.By(sample.Create("c"), 1, 1, 1)}
	db := coll.New()
	empty := string(db.Code())
	db.Create("c")
	for id := range 3 {
		l, base := all, string(db.Code())
		if id > 0 {
			l, base = all[:1], empty
		}
		first, ahead, got := c.Log(id)
		if first != 1 || ahead != 0 || !sample.AlikeLogs(got, l) || string(c.Base(id)) != base {
			t.Errorf("Log(%d) = %d, %d, %s, its base is %q", id, first, ahead, show(got), c.Base(id))
		}
	}
	does(t, c, at(api.ActCompact, 0), api.OK)
	if first, base, l := c.Log(0); first != 3 || base != 1 || len(l) != 0 || string(c.Base(0)) != string(db.Code()) {
		t.Errorf("Log(0) = %d, %d, %s", first, base, show(l))
	}
}

func TestNextIsTheEldest(t *testing.T) {
	c := made(t, 3)
	for range 10 {
		does(t, c, at(api.ActTick, 0), api.OK)
	}
	wish := func(to int) api.Msg { return sample.Msg(api.MsgVote, 0, to, 1) }
	for _, want := range []api.Msg{wish(1), wish(2)} {
		for range 2 {
			if m, e := c.Next(); e != api.OK || !sample.AlikeMsgs(m, want) {
				t.Errorf("Next() = %s, %d, want %s", show(m), e, show(want))
			}
		}
		does(t, c, api.Act{Kind: api.ActLose}, api.OK)
	}
	if m, e := c.Next(); e != api.ErrNone || c.Bag() != 0 {
		t.Errorf("Next() = %s, %d", show(m), e)
	}
}

// R3: memory.

func TestAnswersAreNewMemory(t *testing.T) {
	c := led(t, 1)
	does(t, c, asked(0, sample.AskCreate("c"), 1, 1), api.OK)
	list := sample.Array(sample.Null(), sample.Number(3))
	does(t, c, asked(0, sample.AskInsert("c", sample.Item(list, list)), 1, 2), api.OK)
	does(t, c, asked(0, sample.AskUpdate("c", list, sample.Ops(sample.Op(api.OpSet, "b.c", list))), 1, 3), api.OK)
	_, _, was := c.Log(0)
	_, _, l := c.Log(0)
	sample.SpoilLog(l)
	b := c.Base(0)
	base := string(b)
	clear(b[:cap(b)])
	if _, _, l := c.Log(0); !sample.AlikeLogs(l, was) || string(c.Base(0)) != base {
		t.Errorf("Log(0) = %s, its base is %q", show(l), c.Base(0))
	}
	find := func() api.Told { return does(t, c, found(0, "c", list, 2, 1), api.OK) }
	poll := func() api.Told {
		does(t, c, api.Act{Kind: api.ActOpen, N: 1, Filter: api.Filter{Coll: "c", Path: []string{"b"}}}, api.OK)
		return does(t, c, api.Act{Kind: api.ActPoll, N: 9}, api.OK)
	}
	read, told := find(), poll()
	if len(read.Answers) != 1 || read.Answers[0].Code != api.OK || len(told.Events) != 2 {
		t.Fatalf("read is %s, told is %s", show(read), show(told))
	}
	sample.SpoilTold(find())
	sample.SpoilTold(poll())
	token := c.Token(0)
	for _, b := range [][]byte{c.Token(0), c.Token(0)} {
		clear(b[:cap(b)])
	}
	if again := find(); again.Answers[0].Index != read.Answers[0].Index || !sample.AlikeTold(again, read) {
		t.Errorf("again read is %s, was %s", show(again), show(read))
	}
	if !slices.Equal(c.Token(0), token) || !sample.AlikeTold(poll(), told) {
		t.Errorf("again told is %s, was %s", show(poll()), show(told))
	}
	c = made(t, 2)
	does(t, c, at(api.ActTick, 0), api.OK)
	for range 9 {
		does(t, c, at(api.ActTick, 0), api.OK)
	}
	m, _ := c.Next()
	sample.SpoilMsg(m)
	m.Term = 9
	if m, _ := c.Next(); !sample.AlikeMsgs(m, sample.Msg(api.MsgVote, 0, 1, 1)) {
		t.Errorf("Next() = %s", show(m))
	}
}

// Steps are not changed, and not kept.
func TestStepsAreNotTouched(t *testing.T) {
	list := sample.Array(sample.Null(), sample.Number(3))
	filter := api.Filter{Coll: "c", Path: []string{"a"}}
	steps := []api.Act{
		asked(0, sample.AskCreate("c"), 1, 1),
		asked(0, sample.AskInsert("c", sample.Item(list, list)), 1, 2),
		asked(0, sample.AskUpdate("c", list, sample.Ops(sample.Op(api.OpSet, "a.0", list))), 1, 3),
		asked(0, sample.AskUpdate("c", list, sample.Ops(sample.Op(api.OpInc, "a", list))), 1, 4),
		found(0, "c", list, 2, 1),
		{Kind: api.ActOpen, Cursor: 1, N: 1, Filter: filter},
		{Kind: api.ActPoll, Cursor: 1, N: 2},
		{Kind: api.ActPoll, Cursor: 1, N: 1},
		{Kind: api.ActAfter, Cursor: 2, Filter: filter},
		{Kind: api.ActPoll, Cursor: 2, N: 1},
		{Kind: api.ActPoll, Cursor: 2, N: 5},
		{Kind: api.ActTick}, {Kind: api.ActTick}, {Kind: api.ActTick},
		asked(1, sample.AskUpdate("c", list, sample.Ops(sample.Op(api.OpSet, "a.0", list))), 1, 5),
		{Kind: api.ActArrive}, {Kind: api.ActArrive}, {Kind: api.ActArrive},
		{Kind: api.ActCrash, Node: 1, Keep: []api.Keep{{Name: "log00000001", N: 2}, {Name: "vote", N: 1}}},
		{Kind: api.ActBoot, Node: 1},
		{Kind: api.ActPoll, Cursor: 1, N: 1},
	}
	for nodes := 1; nodes <= 2; nodes++ {
		c, d := led(t, nodes), led(t, nodes)
		for i, a := range steps {
			if a.Kind == api.ActAfter {
				a.Token = c.Token(1)
			}
			room := sample.RoomyAct(a)
			want, got := c.Do(a), d.Do(room)
			if !sample.UntouchedAct(room, a) {
				t.Errorf("%s was touched: %s", show(a), show(room))
			}
			sample.SpoilAct(room)
			if !sample.AlikeTold(got, want) || nodes == 1 && i < 11 && want.Code != api.OK {
				t.Errorf("%s shows %s, want %s", show(a), show(got), show(want))
			}
			if x, y := arrives(t, c), arrives(t, d); !slices.EqualFunc(x, y, sample.AlikeAnswers) {
				t.Errorf("behind %s is answered %s, want %s", show(a), show(y), show(x))
			}
		}
	}
}
