package cluster_test

import (
	"math"
	"slices"
	"testing"

	"tributary/api"
	"tributary/cluster"
	"tributary/sample"
)

// P26.1: Do, kind by kind.

// nodeKinds are the kinds of steps that look at Node, and offKinds those of them that do so though it is not up, or is dead.
var (
	nodeKinds = []int{api.ActTick, api.ActAsk, api.ActFind, api.ActCompact, api.ActCrash, api.ActBoot, api.ActStop, api.ActOpen, api.ActPoll, api.ActAfter, api.ActCut}
	offKinds  = []int{api.ActCrash, api.ActBoot, api.ActStop, api.ActCut}
)

// farNodes are nodes that no cluster of three has.
var farNodes = []int{-1, 3, 6, 7, 8, math.MinInt, math.MaxInt, 1 << 32, -1 << 32}

// farPlaces are places that no cursor has.
var farPlaces = []int{-1, 16, 17, math.MinInt, math.MaxInt, 1 << 32, -1 << 32}

func TestKindsThatAreNone(t *testing.T) {
	c := led(t, 3)
	for _, kind := range []int{0, -1, 15, 16, 255, 257, 1<<32 + 1, math.MinInt, math.MaxInt} {
		for _, id := range append(farNodes, 0) {
			does(t, c, api.Act{Kind: kind, Node: id, N: -1, M: -1, Cursor: -1}, api.ErrArg)
		}
	}
}

func TestNodesThatAreNone(t *testing.T) {
	c := led(t, 3)
	for _, kind := range nodeKinds {
		for _, id := range farNodes {
			does(t, c, api.Act{Kind: kind, Node: id, N: -1, M: -1, Cursor: -1, Keep: []api.Keep{{}}}, api.ErrNone)
		}
	}
	// Other kinds do not look at it.
	for _, kind := range []int{api.ActArrive, api.ActCopy, api.ActLose} {
		for _, id := range farNodes {
			for range 3 {
				does(t, c, at(api.ActTick, 0), api.OK)
			}
			does(t, c, at(kind, id), api.OK)
		}
	}
}

func TestNodesThatAreOff(t *testing.T) {
	down := led(t, 3)
	does(t, down, at(api.ActCrash, 1), api.OK)
	for what, c := range map[string]*cluster.Cluster{"one that is not up": down, "one that is dead": dead(t, 1)} {
		for _, kind := range nodeKinds {
			if slices.Contains(offKinds, kind) {
				continue
			}
			// That is said ahead of all else.
			if got := c.Do(api.Act{Kind: kind, Node: 1, N: -1, Cursor: -1}); got.Code != api.ErrOff || len(got.Answers)+len(got.Events) > 0 {
				t.Errorf("%s, kind %d: %s, want ErrOff", what, kind, show(got))
			}
		}
		nothing(t, c, 1)
	}
}

// The clock of one node goes on, and no other one's.
func TestTick(t *testing.T) {
	c := made(t, 3)
	for range 13 {
		does(t, c, at(api.ActTick, 1), api.OK)
	}
	for id := range 3 {
		stands(t, c, id, api.Status{Role: follower, Leader: nobody, First: 1})
	}
	does(t, c, api.Act{Kind: api.ActTick, Node: 1, N: -5, M: -5, Cursor: -5}, api.OK)
	stands(t, c, 0, api.Status{Role: follower, Leader: nobody, First: 1})
	stands(t, c, 1, api.Status{Term: 1, Role: candidate, Leader: nobody, First: 1})
	stands(t, c, 2, api.Status{Role: follower, Leader: nobody, First: 1})
	if c.Bag() != 2 {
		t.Errorf("%d messages were sent", c.Bag())
	}
}

func TestTickThatTakesTheDisk(t *testing.T) {
	c := made(t, 3)
	does(t, c, api.Act{Kind: api.ActStop, Node: 0}, api.OK)
	for range 9 {
		does(t, c, at(api.ActTick, 0), api.OK)
	}
	does(t, c, at(api.ActTick, 0), api.ErrDead)
	nothing(t, c, 0)
	does(t, c, at(api.ActTick, 0), api.ErrOff)
	if c.Bag() != 0 {
		t.Errorf("%d messages were sent", c.Bag())
	}
}

// called answers a cluster of three in whose bag are the leader's calls to nodes 1 and 2.
func called(t *testing.T) *cluster.Cluster {
	t.Helper()
	c := led(t, 3)
	for range 3 {
		does(t, c, at(api.ActTick, 0), api.OK)
	}
	if m, _ := c.Next(); c.Bag() != 2 || m.Kind != api.MsgAppend || m.To != 1 {
		t.Fatalf("%d messages are on their way, first %s", c.Bag(), show(m))
	}
	return c
}

// messages answers all that are on their way; they are lost.
func messages(t *testing.T, c *cluster.Cluster) []api.Msg {
	t.Helper()
	var l []api.Msg
	for c.Bag() > 0 {
		m, e := c.Next()
		if e != api.OK {
			t.Fatalf("Next(): %d", e)
		}
		l = append(l, m)
		does(t, c, api.Act{Kind: api.ActLose}, api.OK)
	}
	return l
}

// carries asks which messages are on their way, by kind, from whom, and to whom; they are lost.
func carries(t *testing.T, c *cluster.Cluster, want ...[3]int) {
	t.Helper()
	var got [][3]int
	for _, m := range messages(t, c) {
		got = append(got, [3]int{m.Kind, m.From, m.To})
	}
	if !slices.Equal(got, want) {
		t.Errorf("on their way are %v, want %v", got, want)
	}
}

const (
	calls   = api.MsgAppend
	answers = api.MsgAppended
)

func TestArriveCopyAndLose(t *testing.T) {
	for place, want := range map[int]map[int][][3]int{
		0: {
			api.ActArrive: {{calls, 0, 2}, {answers, 1, 0}},
			api.ActCopy:   {{calls, 0, 1}, {calls, 0, 2}, {answers, 1, 0}},
			api.ActLose:   {{calls, 0, 2}},
		},
		1: {
			api.ActArrive: {{calls, 0, 1}, {answers, 2, 0}},
			api.ActCopy:   {{calls, 0, 1}, {calls, 0, 2}, {answers, 2, 0}},
			api.ActLose:   {{calls, 0, 1}},
		},
	} {
		for kind, want := range want {
			c := called(t)
			does(t, c, api.Act{Kind: kind, Node: 2 - place, N: place, M: -5, Cursor: -5}, api.OK)
			carries(t, c, want...)
		}
	}
	// A copy may be made again and again.
	c := called(t)
	for range 3 {
		does(t, c, api.Act{Kind: api.ActCopy, N: 1}, api.OK)
	}
	carries(t, c, [3]int{calls, 0, 1}, [3]int{calls, 0, 2}, [3]int{answers, 2, 0}, [3]int{answers, 2, 0}, [3]int{answers, 2, 0})
}

func TestPlacesThatAreNone(t *testing.T) {
	for _, kind := range []int{api.ActArrive, api.ActCopy, api.ActLose} {
		for _, n := range []int{-1, 2, 3, math.MinInt, math.MaxInt, 1 << 32, -1 << 32} {
			c := called(t)
			does(t, c, api.Act{Kind: kind, N: n}, api.ErrNone)
			carries(t, c, [3]int{calls, 0, 1}, [3]int{calls, 0, 2})
			does(t, c, api.Act{Kind: kind}, api.ErrNone)
		}
	}
}

// What goes to a node that is not up, or is dead, is taken, and nothing more.
func TestMessagesToNodesThatAreOff(t *testing.T) {
	for _, how := range []string{"down", "dead"} {
		for kind, want := range map[int][][3]int{
			api.ActArrive: {{calls, 0, 2}},
			api.ActCopy:   {{calls, 0, 1}, {calls, 0, 2}},
			api.ActLose:   {{calls, 0, 2}},
		} {
			c := called(t)
			if how == "down" {
				does(t, c, at(api.ActCrash, 1), api.OK)
			} else {
				kill(t, c, 1)
			}
			does(t, c, at(kind, 0), api.OK)
			carries(t, c, want...)
		}
	}
}

// A message by which its node dies is taken, but for a copy.
func TestMessagesThatTakeTheDisk(t *testing.T) {
	for kind, want := range map[int][][3]int{
		api.ActArrive: {{calls, 0, 2}},
		api.ActCopy:   {{calls, 0, 1}, {calls, 0, 2}},
	} {
		c := led(t, 3)
		does(t, c, asked(0, sample.AskCreate("c"), 1, 1), api.OK)
		does(t, c, at(api.ActStop, 1), api.OK)
		does(t, c, at(kind, 0), api.ErrDead)
		nothing(t, c, 1)
		carries(t, c, want...)
	}
}

func TestCut(t *testing.T) {
	for id, want := range [][][3]int{{}, {{calls, 0, 2}}, {{calls, 0, 1}}} {
		c := called(t)
		does(t, c, api.Act{Kind: api.ActCut, Node: id, N: -5, M: -5, Cursor: -5}, api.OK)
		carries(t, c, want...)
		c = called(t)
		does(t, c, at(api.ActCrash, id), api.OK)
		does(t, c, at(api.ActCut, id), api.OK)
		carries(t, c, want...)
		does(t, c, at(api.ActCut, id), api.OK)
	}
	// Also those that it sent.
	c := called(t)
	does(t, c, api.Act{Kind: api.ActCopy}, api.OK)
	does(t, c, at(api.ActCut, 1), api.OK)
	carries(t, c, [3]int{calls, 0, 2})
}

func TestTheBagIsFull(t *testing.T) {
	c := led(t, 7)
	for range 3 * 43 {
		does(t, c, at(api.ActTick, 0), api.OK)
	}
	if c.Bag() != 256 {
		t.Errorf("%d messages are on their way", c.Bag())
	}
	// Of 43 calls to 6 nodes the first two messages were lost.
	if m, e := c.Next(); e != api.OK || m.To != 3 {
		t.Errorf("Next() = %s, %d", show(m), e)
	}
}

func TestAskAndFind(t *testing.T) {
	c := led(t, 3)
	does(t, c, asked(1, sample.AskCreate("c"), 1, 1), api.ErrLeader)
	does(t, c, found(1, "c", sample.Null(), 1, 1), api.ErrLeader)
	does(t, c, asked(0, sample.AskCreate("c"), 0, 1), api.ErrArg)
	does(t, c, found(0, "c", sample.Null(), 1, 0), api.ErrArg)
	if c.Bag() != 0 {
		t.Errorf("%d messages were sent", c.Bag())
	}
	got := does(t, c, asked(0, sample.AskCreate("c"), 1, 1), api.OK)
	if len(got.Answers) != 0 || c.Bag() != 2 {
		t.Errorf("Ask shows %s, and sends %d messages", show(got), c.Bag())
	}
	does(t, c, api.Act{Kind: api.ActArrive}, api.OK)
	want := api.Told{Nodes: []int{0}, Answers: []api.Answer{{Session: 1, Number: 1, Index: 2}}}
	if got := does(t, c, api.Act{Kind: api.ActArrive, N: 1}, api.OK); !sample.AlikeTold(got, want) {
		t.Errorf("shown is %s, want %s", show(got), show(want))
	}
	arrives(t, c)
	doc := sample.Item(sample.Number(7), sample.Text("t"))
	does(t, c, asked(0, sample.AskInsert("c", doc), 1, 2), api.OK)
	// Of a read Session, Number, Coll and Id are looked at.
	read := found(0, "c", sample.Number(7), 2, 9)
	read.Ask.Kind, read.Ask.To, read.Ask.Doc, read.Ask.Spec.Replace = -1, "$", sample.Null(), true
	read.N, read.M, read.Cursor = -5, -5, -5
	does(t, c, read, api.OK)
	does(t, c, found(0, "c", sample.Number(8), 2, 10), api.OK)
	does(t, c, found(0, "d", sample.Number(7), 3, 9), api.OK)
	does(t, c, asked(0, sample.AskDrop("d"), 1, 3), api.OK)
	wantAll := []api.Answer{
		{Session: 1, Number: 2, Index: 3},
		{Session: 2, Number: 9, Read: true, Index: 3, Value: doc},
		{Session: 2, Number: 10, Read: true, Code: api.ErrNone, Index: 3},
		{Session: 3, Number: 9, Read: true, Code: api.ErrColl, Index: 3},
		{Session: 1, Number: 3, Code: api.ErrColl, Index: 3},
	}
	if got := arrives(t, c); !slices.EqualFunc(got, wantAll, sample.AlikeAnswers) {
		t.Errorf("answered is %s, want %s", show(got), show(wantAll))
	}
}

// Answers are shown once, with the node of each.
func TestALeaderThatIsNoneAnyMore(t *testing.T) {
	c := led(t, 3)
	does(t, c, asked(0, sample.AskCreate("c"), 1, 1), api.OK)
	does(t, c, found(0, "c", sample.Null(), 1, 2), api.OK)
	does(t, c, at(api.ActCut, 0), api.OK)
	for range 14 {
		does(t, c, at(api.ActTick, 1), api.OK)
	}
	want := api.Told{Nodes: []int{0, 0}, Answers: []api.Answer{{Session: 1, Number: 1, Code: api.ErrLeader}, {Session: 1, Number: 2, Read: true, Code: api.ErrLeader}}}
	if got := does(t, c, api.Act{Kind: api.ActArrive}, api.OK); !sample.AlikeTold(got, want) {
		t.Errorf("shown is %s, want %s", show(got), show(want))
	}
	if got := arrives(t, c); len(got) != 0 {
		t.Errorf("answered is %s", show(got))
	}
}

func TestCompact(t *testing.T) {
	c := led(t, 3)
	does(t, c, api.Act{Kind: api.ActCompact, Node: 1, N: -5, M: -5, Cursor: -5}, api.OK)
	stands(t, c, 0, api.Status{Term: 1, Role: leader, First: 1, Last: 1, Commit: 1, Done: 1})
	stands(t, c, 1, api.Status{Term: 1, Role: follower, First: 2, Last: 1, Commit: 1, Done: 1})
	does(t, c, at(api.ActCompact, 1), api.ErrArg)
	does(t, c, at(api.ActStop, 0), api.OK)
	does(t, c, at(api.ActCompact, 0), api.ErrDead)
	nothing(t, c, 0)
}

func TestCrashAndBoot(t *testing.T) {
	c := led(t, 3)
	does(t, c, asked(0, sample.AskCreate("c"), 1, 1), api.OK)
	arrives(t, c)
	for id := range 3 {
		does(t, c, at(api.ActBoot, id), api.ErrTwice)
	}
	stands(t, c, 0, api.Status{Term: 1, Role: leader, First: 1, Last: 2, Commit: 2, Done: 2})
	does(t, c, api.Act{Kind: api.ActCrash, Node: 0, N: -5, M: -5, Cursor: -5}, api.OK)
	nothing(t, c, 0)
	if !c.Up(1) || !c.Up(2) {
		t.Error("others crashed, too")
	}
	// Once more it loses nothing more.
	does(t, c, at(api.ActCrash, 0), api.OK)
	does(t, c, api.Act{Kind: api.ActBoot, Node: 0, N: -5, M: -5, Cursor: -5}, api.OK)
	stands(t, c, 0, api.Status{Term: 1, Role: follower, Leader: nobody, First: 1, Last: 2})
	does(t, c, at(api.ActBoot, 0), api.ErrTwice)
	// It goes on with the others.
	c.Settle(40)
	for id := range 3 {
		s := c.Status(id)
		if s.Done != s.Last || s.Done < 3 {
			t.Errorf("node %d stands %+v", id, s)
		}
	}
}

func TestABootKeepsImages(t *testing.T) {
	for _, keep := range []int{0, 1, 3} {
		c, e := cluster.New(1, keep)
		if e != api.OK {
			t.Fatalf("New: %d", e)
		}
		does(t, c, at(api.ActCrash, 0), api.OK)
		does(t, c, at(api.ActBoot, 0), api.OK)
		c.Settle(10)
		for i := range 4 {
			does(t, c, asked(0, []api.Ask{sample.AskCreate("c"), sample.AskDrop("c")}[i%2], 1, 1+i), api.OK)
		}
		does(t, c, api.Act{Kind: api.ActOpen, N: 1}, api.OK)
		got := does(t, c, api.Act{Kind: api.ActPoll, N: 64}, api.OK)
		for i, v := range got.Events {
			want := api.ImageNone
			if i < 4-keep {
				want = api.ImageExpired
			}
			if v.Had != want {
				t.Errorf("of keep %d: event %d says %d, want %d", keep, i, v.Had, want)
			}
		}
		if len(got.Events) != 4 {
			t.Errorf("told is %s", show(got))
		}
	}
}

// A crash may keep of what was not sure as much as is said.
func TestCrashKeeps(t *testing.T) {
	for keep, want := range map[int]int{-1: 1, 0: 1, 1: 1, 20: 2, 1000: 2} {
		c := led(t, 2)
		does(t, c, asked(0, sample.AskCreate("c"), 1, 1), api.OK)
		// The power goes when the entry is made sure: it is appended by then.
		does(t, c, api.Act{Kind: api.ActStop, Node: 1, N: 2}, api.OK)
		does(t, c, api.Act{Kind: api.ActArrive}, api.ErrDead)
		does(t, c, api.Act{Kind: api.ActCrash, Node: 1, Keep: []api.Keep{{Name: "vote", N: 7}, {Name: "log00000001", N: keep}}}, api.OK)
		does(t, c, at(api.ActBoot, 1), api.OK)
		stands(t, c, 1, api.Status{Term: 1, Role: follower, Leader: nobody, First: 1, Last: want})
	}
}

func TestCrashRefusesNames(t *testing.T) {
	for _, name := range []string{"", "a name that is much too long"} {
		c := led(t, 1)
		does(t, c, api.Act{Kind: api.ActCrash, Keep: []api.Keep{{Name: "vote"}, {Name: name}}}, api.ErrArg)
		stands(t, c, 0, api.Status{Term: 1, Role: leader, First: 1, Last: 1, Commit: 1, Done: 1})
		does(t, c, at(api.ActBoot, 0), api.ErrTwice)
	}
}

func TestBootOfADeadNode(t *testing.T) {
	c := dead(t, 1)
	// Its disk has no power.
	does(t, c, at(api.ActBoot, 1), api.ErrOff)
	nothing(t, c, 1)
	does(t, c, at(api.ActCrash, 1), api.OK)
	does(t, c, at(api.ActBoot, 1), api.OK)
	stands(t, c, 1, api.Status{Term: 1, Role: follower, Leader: nobody, First: 1, Last: 1})
}

// The power may go while a node boots.
func TestBootThatTakesTheDisk(t *testing.T) {
	c := led(t, 1)
	// What broke off at the log's end is cut off by a boot: that is a change.
	does(t, c, api.Act{Kind: api.ActStop, N: 1, M: 3}, api.OK)
	does(t, c, asked(0, sample.AskCreate("c"), 1, 1), api.ErrDead)
	does(t, c, api.Act{Kind: api.ActCrash, Keep: []api.Keep{{Name: "log00000001", N: 3}}}, api.OK)
	does(t, c, at(api.ActStop, 0), api.OK)
	does(t, c, at(api.ActBoot, 0), api.ErrOff)
	nothing(t, c, 0)
	does(t, c, at(api.ActBoot, 0), api.ErrOff)
	does(t, c, at(api.ActCrash, 0), api.OK)
	does(t, c, at(api.ActBoot, 0), api.OK)
	stands(t, c, 0, api.Status{Term: 1, Role: follower, Leader: nobody, First: 1, Last: 1})
}

func TestStop(t *testing.T) {
	c := led(t, 1)
	for _, x := range [][2]int{{-2, 0}, {0, -1}, {math.MinInt, 0}, {5, math.MinInt}} {
		does(t, c, api.Act{Kind: api.ActStop, N: x[0], M: x[1]}, api.ErrArg)
	}
	// A request that is done alone is 3 changes: a cut, an append, a sync.
	does(t, c, api.Act{Kind: api.ActStop, N: 3, M: 5, Cursor: -5}, api.OK)
	does(t, c, asked(0, sample.AskCreate("c"), 1, 1), api.OK)
	does(t, c, api.Act{Kind: api.ActStop, N: -1}, api.OK)
	does(t, c, asked(0, sample.AskCreate("d"), 1, 2), api.OK)
	does(t, c, asked(0, sample.AskCreate("e"), 1, 3), api.OK)
	does(t, c, api.Act{Kind: api.ActStop, N: 3}, api.OK)
	does(t, c, asked(0, sample.AskCreate("f"), 1, 4), api.OK)
	does(t, c, asked(0, sample.AskCreate("g"), 1, 5), api.ErrDead)
	// There is no power to be told of.
	does(t, c, api.Act{Kind: api.ActStop, N: 1}, api.ErrOff)
	// A crash brings it back; then it is told to go though the node is not up.
	does(t, c, at(api.ActCrash, 0), api.OK)
	does(t, c, api.Act{Kind: api.ActStop, N: 0}, api.OK)
	does(t, c, at(api.ActBoot, 0), api.OK)
	for range 9 {
		does(t, c, at(api.ActTick, 0), api.OK)
	}
	does(t, c, at(api.ActTick, 0), api.ErrDead)
}
