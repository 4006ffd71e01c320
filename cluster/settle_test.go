package cluster_test

import (
	"fmt"
	"math"
	"slices"
	"testing"

	"tributary/api"
	"tributary/cluster"
	"tributary/sample"
)

// P26.2: Settle.

// settles does what Settle is said to do, step by step, and answers what it is said to answer, and how many messages arrived.
func settles(c *cluster.Cluster, ticks int) ([]api.Told, int) {
	var l []api.Told
	do := func(a api.Act) {
		if told := c.Do(a); len(told.Answers) > 0 {
			l = append(l, told)
		}
	}
	arrived := 0
	for time := 0; time < ticks && time < 1000; time++ {
		for id := range c.Nodes() {
			if c.Up(id) {
				do(at(api.ActTick, id))
			}
		}
		for c.Bag() > 0 && arrived < 5000 {
			do(api.Act{Kind: api.ActArrive, N: 0})
			arrived++
		}
	}
	return l, arrived
}

// alike asks whether two clusters are the same, as far as they tell.
func alike(t *testing.T, what string, got, want *cluster.Cluster) {
	t.Helper()
	if a, b := tale(got), tale(want); a != b {
		t.Fatalf("%s: it is %.2000s, want %.2000s", what, a, b)
	}
}

// tale tells all of a cluster that it tells.
func tale(c *cluster.Cluster) string {
	var s []byte
	for id := range 8 {
		first, base, l := c.Log(id)
		s = fmt.Appendf(s, "node %d: %t %+v %d %d %+v %q\n", id, c.Up(id), c.Status(id), first, base, l, c.Base(id))
	}
	m, e := c.Next()
	s = fmt.Appendf(s, "bag: %d %+v %d\n", c.Bag(), m, e)
	for place := range 16 {
		s = fmt.Appendf(s, "%q ", c.Token(place))
	}
	return string(s)
}

// bothSettle asks whether Settle does what it is said to do, of two clusters that are the same; it answers what was shown, and how many messages arrived.
func bothSettle(t *testing.T, c, twin *cluster.Cluster, ticks int) ([]api.Told, int) {
	t.Helper()
	got := c.Settle(ticks)
	want, arrived := settles(twin, ticks)
	if !slices.EqualFunc(got, want, sample.AlikeTold) {
		t.Errorf("Settle(%d) shows %s, want %s", ticks, show(got), show(want))
	}
	alike(t, fmt.Sprint("Settle ", ticks), c, twin)
	return got, arrived
}

func TestSettle(t *testing.T) {
	for nodes := 1; nodes <= 7; nodes++ {
		c, twin := made(t, nodes), made(t, nodes)
		for _, ticks := range []int{0, -1, 1, 8, 1, 1, 3, 0, math.MinInt, 20} {
			if got, _ := bothSettle(t, c, twin, ticks); len(got) != 0 {
				t.Errorf("Settle(%d) shows %s", ticks, show(got))
			}
		}
		// 34 times have passed.
		if s := c.Status(0); s.Role != leader || s.Term != 1 || s.Done != 1 {
			t.Errorf("of %d nodes the first one stands %+v", nodes, s)
		}
		for i := range 3 {
			for _, c := range []*cluster.Cluster{c, twin} {
				c.Do(asked(0, sample.AskCreate(fmt.Sprint("c", i)), 1, 1+i))
				c.Do(asked(0, sample.AskDrop("d"), 2, 1+i))
			}
		}
		got, _ := bothSettle(t, c, twin, 4)
		want := []api.Answer{}
		for i := range 3 {
			want = append(want, api.Answer{Session: 1, Number: 1 + i, Index: 2 + i}, api.Answer{Session: 2, Number: 1 + i, Code: api.ErrColl, Index: 2 + i})
		}
		var answers []api.Answer
		for _, told := range got {
			if told.Code != api.OK || len(told.Answers) == 0 || len(told.Events) > 0 {
				t.Errorf("Settle shows %s", show(told))
			}
			answers = append(answers, told.Answers...)
		}
		slices.SortFunc(answers, func(a, b api.Answer) int { return 2*(a.Number-b.Number) + a.Session - b.Session })
		if nodes > 1 && !slices.EqualFunc(answers, want, sample.AlikeAnswers) {
			t.Errorf("of %d nodes answered is %s, want %s", nodes, show(answers), show(want))
		}
	}
}

// Nodes that are not up, or are dead, do not tick; nodes that die do not keep others from going on.
func TestSettleWithoutSomeNodes(t *testing.T) {
	for _, killed := range []bool{false, true} {
		c, twin := led(t, 5), led(t, 5)
		for _, c := range []*cluster.Cluster{c, twin} {
			does(t, c, at(api.ActCrash, 0), api.OK)
			does(t, c, at(api.ActCrash, 2), api.OK)
			if killed {
				kill(t, c, 1)
				does(t, c, at(api.ActBoot, 2), api.OK)
			}
			does(t, c, api.Act{Kind: api.ActStop, Node: 3, N: 4}, api.OK)
		}
		for range 4 {
			bothSettle(t, c, twin, 20)
		}
		if c.Up(0) || c.Up(1) == killed || c.Up(2) != killed || c.Up(3) || !c.Up(4) {
			t.Error("others are up")
		}
		for _, c := range []*cluster.Cluster{c, twin} {
			does(t, c, at(api.ActBoot, 0), api.OK)
		}
		bothSettle(t, c, twin, 60)
		leads := 0
		for id := range 5 {
			if s := c.Status(id); s.Role == leader {
				leads++
			}
		}
		if leads != 1 {
			t.Errorf("%d nodes lead", leads)
		}
	}
}

// It goes on for 1000 times at most.
func TestSettleTicksAtMost(t *testing.T) {
	for ticks, want := range map[int]int{999: 99, 1000: 100, 1001: 100, 5000: 100, math.MaxInt: 100, 1 << 32: 100} {
		c, twin := made(t, 3), made(t, 3)
		for _, c := range []*cluster.Cluster{c, twin} {
			does(t, c, at(api.ActCrash, 1), api.OK)
			does(t, c, at(api.ActCrash, 2), api.OK)
		}
		bothSettle(t, c, twin, ticks)
		// Each 10 times it stands for election.
		if s := c.Status(0); s.Term != want || s.Role != candidate {
			t.Errorf("behind %d ticks it stands %+v", ticks, s)
		}
		// So many ticks later it stands once more.
		for left := 10 - min(ticks, 1000)%10; left > 0; left-- {
			if s := c.Status(0); s.Term != want {
				t.Errorf("%d ticks too early it stands %+v", left, s)
			}
			does(t, c, at(api.ActTick, 0), api.OK)
		}
		if s := c.Status(0); s.Term != want+1 {
			t.Errorf("behind %d ticks, and some more, it stands %+v", ticks, s)
		}
	}
}

// crowded answers a cluster of three in which node 2 lacks 400 entries, and each of many messages makes it ask for all of them.
func crowded(t *testing.T) *cluster.Cluster {
	t.Helper()
	c := led(t, 3)
	does(t, c, at(api.ActCrash, 2), api.OK)
	for i := range 400 {
		does(t, c, asked(0, []api.Ask{sample.AskCreate("c"), sample.AskDrop("c")}[i%2], 1, 1+i), api.OK)
		if i%8 == 7 {
			arrives(t, c)
		}
	}
	does(t, c, at(api.ActBoot, 2), api.OK)
	for range 3 * 120 {
		does(t, c, at(api.ActTick, 0), api.OK)
	}
	return c
}

// No more than 5000 messages arrive, in all times.
func TestSettleLetsSoManyArrive(t *testing.T) {
	c, twin := crowded(t), crowded(t)
	_, arrived := bothSettle(t, c, twin, 30)
	left, want := messages(t, c), messages(t, twin)
	if arrived != 5000 || len(want) == 0 || !slices.EqualFunc(left, want, sample.AlikeMsgs) {
		t.Errorf("%d messages arrived, on their way are %s, want %s", arrived, show(left), show(want))
	}
	// Those that are left arrive next time.
	c, twin = crowded(t), crowded(t)
	bothSettle(t, c, twin, 30)
	_, arrived = bothSettle(t, c, twin, 30)
	if s := c.Status(2); arrived == 0 || arrived >= 5000 || c.Bag() != 0 || s.Done != c.Status(0).Last {
		t.Errorf("%d messages arrived, %d are on their way, node 2 stands %+v", arrived, c.Bag(), s)
	}
}
