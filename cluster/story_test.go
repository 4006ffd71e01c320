package cluster_test

import (
	"slices"
	"testing"

	"tributary/api"
	"tributary/cluster"
	"tributary/sample"
	"tributary/varint"
)

// The document's ten examples of the whole.

func TestOneNodeLeads(t *testing.T) {
	c := made(t, 1)
	for range 9 {
		does(t, c, at(api.ActTick, 0), api.OK)
	}
	stands(t, c, 0, api.Status{Role: follower, Leader: nobody, First: 1})
	does(t, c, at(api.ActTick, 0), api.OK)
	stands(t, c, 0, api.Status{Term: 1, Role: leader, First: 1, Last: 1, Commit: 1, Done: 1})
	if _, _, l := c.Log(0); !sample.AlikeLogs(l, []api.Entry{sample.By(sample.Noop(), 1, 0, 0)}) {
		t.Errorf("Log(0) has %s", show(l))
	}
}

func TestARequestThatIsAskedTwice(t *testing.T) {
	c := led(t, 3)
	for range 2 {
		does(t, c, asked(0, sample.AskCreate("c"), 1, 1), api.OK)
	}
	want := []api.Answer{{Session: 1, Number: 1, Index: 2}, {Session: 1, Number: 1}}
	if got := arrives(t, c); !slices.EqualFunc(got, want, sample.AlikeAnswers) {
		t.Errorf("answered is %s, want %s", show(got), show(want))
	}
	if s := c.Status(0); s.Last != 2 {
		t.Errorf("it stands %+v", s)
	}
	// So it is by another leader: it has done what was asked for, and answers at once.
	does(t, c, at(api.ActCrash, 0), api.OK)
	c.Settle(30)
	told := api.Told{Nodes: []int{1}, Answers: want[1:]}
	if got := does(t, c, asked(1, sample.AskCreate("c"), 1, 1), api.OK); !sample.AlikeTold(got, told) {
		t.Errorf("shown is %s, want %s", show(got), show(told))
	}
}

// cutOff lets all nodes tick so many times; no message reaches the one that is away, or comes from it.
func cutOff(t *testing.T, c *cluster.Cluster, away, ticks int) {
	t.Helper()
	for range ticks {
		for id := range c.Nodes() {
			does(t, c, at(api.ActTick, id), api.OK)
		}
		for c.Bag() > 0 {
			does(t, c, at(api.ActCut, away), api.OK)
			if c.Bag() > 0 {
				if got := does(t, c, api.Act{Kind: api.ActArrive}, api.OK); len(got.Answers) > 0 {
					t.Errorf("answered is %s", show(got))
				}
			}
		}
	}
}

func TestALeaderThatIsCutOff(t *testing.T) {
	c := led(t, 3)
	does(t, c, asked(0, sample.AskCreate("c"), 1, 1), api.OK)
	does(t, c, found(0, "c", sample.Null(), 2, 1), api.OK)
	cutOff(t, c, 0, 30)
	// It still thinks that it leads, but answers no read, nor a request.
	does(t, c, found(0, "c", sample.Null(), 2, 2), api.OK)
	cutOff(t, c, 0, 30)
	if s, x := c.Status(0), c.Status(1); s.Role != leader || x.Role != leader || s.Term >= x.Term || s.Done != 1 || s.Last != 2 || x.Done != 2 {
		t.Fatalf("node 0 stands %+v, node 1 %+v", s, x)
	}
	// When it comes back, what it alone had is gone; what waited there is refused.
	var answers []api.Answer
	for _, told := range c.Settle(20) {
		answers = append(answers, told.Answers...)
	}
	want := []api.Answer{{Session: 1, Number: 1, Code: api.ErrLeader}, {Session: 2, Number: 1, Read: true, Code: api.ErrLeader}, {Session: 2, Number: 2, Read: true, Code: api.ErrLeader}}
	if !slices.EqualFunc(answers, want, sample.AlikeAnswers) {
		t.Errorf("answered is %s, want %s", show(answers), show(want))
	}
	for id := range 3 {
		if _, _, l := c.Log(id); len(l) != 2 || l[0].Term != 1 || l[1].Kind != api.EntryNoop || l[1].Term != c.Status(1).Term || c.Status(id).Last != 2 {
			t.Errorf("Log(%d) has %s", id, show(l))
		}
	}
}

func TestAnUpdateThatCanNotBeDone(t *testing.T) {
	c := led(t, 3)
	does(t, c, asked(0, sample.AskCreate("c"), 1, 1), api.OK)
	does(t, c, asked(0, sample.AskInsert("c", sample.Item(sample.Null(), sample.Text("t"))), 1, 2), api.OK)
	arrives(t, c)
	does(t, c, asked(0, sample.AskUpdate("c", sample.Null(), sample.Ops(sample.Op(api.OpInc, "a", sample.Number(1)))), 1, 3), api.OK)
	want := []api.Answer{{Session: 1, Number: 3, Code: api.ErrType, Index: 3}}
	if got := arrives(t, c); !slices.EqualFunc(got, want, sample.AlikeAnswers) {
		t.Errorf("answered is %s, want %s", show(got), show(want))
	}
	if s := c.Status(0); s.Last != 3 {
		t.Errorf("it stands %+v", s)
	}
}

func TestANodeThatWasAwayLong(t *testing.T) {
	c := led(t, 3)
	does(t, c, at(api.ActCrash, 2), api.OK)
	for i := range 20 {
		does(t, c, asked(0, []api.Ask{sample.AskCreate("c"), sample.AskDrop("c")}[i%2], 1, 1+i), api.OK)
		arrives(t, c)
	}
	does(t, c, asked(0, sample.AskCreate("d"), 1, 99), api.OK)
	arrives(t, c)
	does(t, c, at(api.ActCompact, 0), api.OK)
	does(t, c, at(api.ActBoot, 2), api.OK)
	snaps := 0
	for range 12 {
		for id := range 3 {
			does(t, c, at(api.ActTick, id), api.OK)
		}
		for c.Bag() > 0 {
			if m, _ := c.Next(); m.Kind == api.MsgSnap && m.To == 2 {
				snaps++
			}
			does(t, c, api.Act{Kind: api.ActArrive}, api.OK)
		}
	}
	stands(t, c, 2, api.Status{Term: 1, Role: follower, First: 23, Last: 22, Commit: 22, Done: 22})
	if snaps != 1 || !slices.Equal(c.Base(2), c.Base(0)) {
		t.Errorf("%d snapshots were sent, the base is %q", snaps, c.Base(2))
	}
}

func TestACursorTellsTheEnd(t *testing.T) {
	c := led(t, 3)
	for i, a := range []api.Ask{sample.AskCreate("c"), sample.AskInsert("c", sample.Item(sample.Number(1))), sample.AskDrop("c")} {
		does(t, c, asked(0, a, 1, 1+i), api.OK)
	}
	c.Settle(4)
	does(t, c, opened(0, 0, ofC, 1), api.OK)
	l := tells(t, c, polled(0, 0, 64), `2.1 create "c"`, `3.1 insert "c" 1 {"_id":1}`, `4.1 drop "c"`, `4.1 end "c"`)
	does(t, c, polled(0, 0, 64), api.ErrEnded)
	// Resumed behind the insert, on another node.
	does(t, c, resumed(1, 1, ofC, l[1].Token), api.OK)
	tells(t, c, polled(2, 1, 64), `4.1 drop "c"`, `4.1 end "c"`)
}

func TestImagesOfTwoEntries(t *testing.T) {
	c, e := cluster.New(1, 2)
	if e != api.OK {
		t.Fatalf("New: %d", e)
	}
	c.Settle(10)
	for i, a := range []api.Ask{sample.AskCreate("c"), sample.AskInsert("c", sample.Item(sample.Number(1))), sample.AskDelete("c", sample.Number(1)), sample.AskDrop("c")} {
		does(t, c, asked(0, a, 1, 1+i), api.OK)
	}
	does(t, c, opened(0, 0, ofC, 1), api.OK)
	var had []int
	for _, v := range does(t, c, polled(0, 0, 64), api.OK).Events {
		had = append(had, v.Had)
	}
	if want := []int{api.ImageExpired, api.ImageExpired, api.ImageHere, api.ImageNone, api.ImageNone}; !slices.Equal(had, want) {
		t.Errorf("known is %v, want %v", had, want)
	}
}

func TestAnyBytesAreRun(t *testing.T) {
	chance := sample.Chance(265)
	for range 300 {
		c := made(t, 1+chance.Below(7))
		b := chance.Bytes(200)
		n := 0
		for s := varint.From([]byte(b)); ; n++ {
			if cluster.Read(s); s.Bad() {
				break
			}
		}
		if l := c.Run([]byte(b)); len(l) != n {
			t.Errorf("of %d steps %d are shown", n, len(l))
		}
	}
}

// A node that is dead while its disk has power boots without a crash: its log is full, as each boot has put an entry more into it.
func TestBootWithoutACrash(t *testing.T) {
	c := led(t, 1)
	number := 0
	ask := func() api.Errno {
		number++
		return c.Do(asked(0, []api.Ask{sample.AskDrop("c"), sample.AskCreate("c")}[number%2], 1, number)).Code
	}
	for range 6 {
		ask()
	}
	// The log on the disk still has these 7 entries.
	does(t, c, at(api.ActCompact, 0), api.OK)
	for ask() == api.OK {
	}
	if s := c.Status(0); s.Last-s.First+1 != 960 {
		t.Fatalf("it stands %+v", s)
	}
	for range 57 {
		does(t, c, at(api.ActCrash, 0), api.OK)
		does(t, c, at(api.ActBoot, 0), api.OK)
		c.Settle(10)
		if !c.Up(0) || c.Status(0).Role != leader {
			t.Fatalf("it stands %+v", c.Status(0))
		}
	}
	does(t, c, at(api.ActCrash, 0), api.OK)
	does(t, c, at(api.ActBoot, 0), api.OK)
	c.Settle(10)
	nothing(t, c, 0)
	does(t, c, at(api.ActTick, 0), api.ErrOff)
	does(t, c, at(api.ActBoot, 0), api.OK)
	stands(t, c, 0, api.Status{Term: 59, Role: follower, Leader: nobody, First: 8, Last: 1024, Commit: 7, Done: 7})
}
