package cluster_test

import (
	"math"
	"slices"
	"testing"

	"tributary/api"
	"tributary/cluster"
	"tributary/event"
	"tributary/sample"
	"tributary/token"
)

// P26.1: the steps of cursors.

var ofC = api.Filter{Coll: "c"}

// opened is a step that opens a cursor at an index.
func opened(id, place int, f api.Filter, i int) api.Act {
	return api.Act{Kind: api.ActOpen, Node: id, Cursor: place, N: i, Filter: f}
}

// polled is a step that asks for so many events.
func polled(id, place, most int) api.Act {
	return api.Act{Kind: api.ActPoll, Node: id, Cursor: place, N: most}
}

// resumed is a step that opens a cursor behind a token.
func resumed(id, place int, f api.Filter, b []byte) api.Act {
	return api.Act{Kind: api.ActAfter, Node: id, Cursor: place, Filter: f, Token: b}
}

// begun is such a one that may stand behind an end, too.
func begun(id, place int, f api.Filter, b []byte) api.Act {
	a := resumed(id, place, f, b)
	a.M = 1
	return a
}

// filled answers a cluster of two in which all have done: a noop, create c, insert 1 and 2 into it, update 1, drop c, create c.
func filled(t *testing.T) *cluster.Cluster {
	t.Helper()
	c := led(t, 2)
	for i, a := range []api.Ask{
		sample.AskCreate("c"), sample.AskInsert("c", sample.Item(sample.Number(1))), sample.AskInsert("c", sample.Item(sample.Number(2))),
		sample.AskUpdate("c", sample.Number(1), sample.Ops(sample.Op(api.OpSet, "a", sample.Number(5)))), sample.AskDrop("c"), sample.AskCreate("c"),
	} {
		does(t, c, asked(0, a, 1, 1+i), api.OK)
	}
	c.Settle(4)
	for id := range 2 {
		if s := c.Status(id); s.Done != 7 || s.Last != 7 {
			t.Fatalf("node %d stands %+v", id, s)
		}
	}
	return c
}

// texts answers what events say.
func texts(t *testing.T, l []api.Event) []string {
	t.Helper()
	var out []string
	for _, v := range l {
		s, e := event.Text(v)
		if e != api.OK {
			t.Fatalf("Text(%s): %d", show(v), e)
		}
		out = append(out, s)
	}
	return out
}

// tells polls, and asks for just these events.
func tells(t *testing.T, c *cluster.Cluster, a api.Act, want ...string) []api.Event {
	t.Helper()
	l := does(t, c, a, api.OK).Events
	if got := texts(t, l); !slices.Equal(got, want) {
		t.Errorf("%s tells %q, want %q", show(a), got, want)
	}
	return l
}

// story is what a cursor of c tells of what was filled, from the beginning on.
var story = []string{`2.1 create "c"`, `3.1 insert "c" 1 {"_id":1}`, `4.1 insert "c" 2 {"_id":2}`, `5.1 update "c" 1 {"_id":1,"a":5}`, `6.1 drop "c"`, `6.1 end "c"`}

func TestOpenAndPoll(t *testing.T) {
	c := filled(t)
	for place := range 16 {
		does(t, c, opened(place%2, place, ofC, 1), api.OK)
	}
	for place := range 16 {
		if b := c.Token(place); len(b) != 0 {
			t.Errorf("Token(%d) = %q", place, b)
		}
		l := tells(t, c, polled(place%2, place, 1), story[0])
		if b := c.Token(place); !slices.Equal(b, l[0].Token) {
			t.Errorf("Token(%d) = %q", place, b)
		}
		// On another node it goes on.
		tells(t, c, polled(1-place%2, place, 3), story[1:4]...)
		l = tells(t, c, polled(place%2, place, 64), story[4:]...)
		if b := c.Token(place); !slices.Equal(b, l[1].Token) {
			t.Errorf("Token(%d) = %q", place, b)
		}
		does(t, c, polled(place%2, place, 64), api.ErrEnded)
	}
}

// N of 0 is the index behind what the node has done.
func TestOpenBehindWhatIsDone(t *testing.T) {
	c := led(t, 2)
	does(t, c, asked(0, sample.AskCreate("c"), 1, 1), api.OK)
	does(t, c, opened(0, 0, ofC, 0), api.OK)
	arrives(t, c)
	does(t, c, opened(0, 1, ofC, 0), api.OK)
	does(t, c, opened(1, 2, ofC, 0), api.OK)
	does(t, c, asked(0, sample.AskDrop("c"), 1, 2), api.OK)
	c.Settle(4)
	tells(t, c, polled(0, 0, 9), `2.1 create "c"`, `3.1 drop "c"`, `3.1 end "c"`)
	tells(t, c, polled(0, 1, 9), `3.1 drop "c"`, `3.1 end "c"`)
	tells(t, c, polled(0, 2, 9), `2.1 create "c"`, `3.1 drop "c"`, `3.1 end "c"`)
}

// A cursor may look at what is not there yet; what is not done on a node is not told there.
func TestPollOfWhatIsNotDone(t *testing.T) {
	c := led(t, 2)
	does(t, c, opened(0, 3, ofC, 3), api.OK)
	does(t, c, opened(0, 4, api.Filter{}, 1), api.OK)
	does(t, c, asked(0, sample.AskCreate("c"), 1, 1), api.OK)
	tells(t, c, polled(0, 4, 9))
	arrives(t, c)
	tells(t, c, polled(1, 4, 9))
	tells(t, c, polled(0, 4, 9), `2.1 create "c"`)
	// On the other node it is ahead of all that is done there.
	tells(t, c, polled(1, 4, 9))
	tells(t, c, polled(0, 3, 9))
	does(t, c, asked(0, sample.AskDrop("c"), 1, 2), api.OK)
	arrives(t, c)
	tells(t, c, polled(0, 3, 9), `3.1 drop "c"`, `3.1 end "c"`)
}

func TestOpenRefuses(t *testing.T) {
	c := filled(t)
	for _, place := range farPlaces {
		does(t, c, opened(0, place, api.Filter{Coll: "$"}, -1), api.ErrNone)
		does(t, c, polled(0, place, 0), api.ErrNone)
		does(t, c, resumed(0, place, api.Filter{Coll: "$"}, nil), api.ErrNone)
		does(t, c, begun(0, place, api.Filter{Coll: "$"}, nil), api.ErrNone)
	}
	does(t, c, opened(0, 5, ofC, 1), api.OK)
	l := tells(t, c, polled(0, 5, 2), story[:2]...)
	for _, n := range []int{-1, 1<<40 + 1, math.MinInt, math.MaxInt} {
		does(t, c, opened(0, 5, ofC, n), api.ErrArg)
	}
	for _, f := range []api.Filter{{Coll: "$"}, {Path: []string{""}}, {Kinds: 1}, {Kinds: 1 << 8}, {Kinds: -4}} {
		does(t, c, opened(0, 5, f, 1), api.ErrArg)
		does(t, c, resumed(0, 5, f, l[0].Token), api.ErrArg)
		does(t, c, begun(0, 5, f, l[0].Token), api.ErrArg)
	}
	for _, b := range [][]byte{nil, []byte("none"), append(slices.Clone(l[0].Token), 0)} {
		does(t, c, resumed(0, 5, ofC, b), api.ErrToken)
		does(t, c, begun(0, 5, ofC, b), api.ErrToken)
	}
	// The cursor that was there is there.
	tells(t, c, polled(0, 5, 9), story[2:]...)
	// A step may look at an index as great as a term.
	does(t, c, opened(0, 5, ofC, 1<<40), api.OK)
	tells(t, c, polled(0, 5, 9))
}

func TestPollRefuses(t *testing.T) {
	c := filled(t)
	for place := range 16 {
		does(t, c, polled(0, place, 1), api.ErrNone)
	}
	does(t, c, opened(0, 0, ofC, 1), api.OK)
	for _, n := range []int{0, -1, 65, math.MinInt, math.MaxInt, 1<<32 + 1} {
		does(t, c, polled(0, 0, n), api.ErrArg)
	}
	does(t, c, at(api.ActCompact, 1), api.OK)
	does(t, c, polled(1, 0, 1), api.ErrGone)
	tells(t, c, polled(0, 0, 9), story...)
	does(t, c, polled(1, 0, 0), api.ErrArg)
	does(t, c, polled(1, 0, 1), api.ErrEnded)
}

// Cursors take the place of others.
func TestCursorsTakeAPlace(t *testing.T) {
	c := filled(t)
	does(t, c, opened(0, 0, ofC, 1), api.OK)
	l := tells(t, c, polled(0, 0, 9), story...)
	does(t, c, opened(0, 0, ofC, 4), api.OK)
	if b := c.Token(0); len(b) != 0 {
		t.Errorf("Token(0) = %q", b)
	}
	tells(t, c, polled(0, 0, 1), story[2])
	does(t, c, resumed(0, 0, ofC, l[0].Token), api.OK)
	if b := c.Token(0); !slices.Equal(b, l[0].Token) {
		t.Errorf("Token(0) = %q", b)
	}
	tells(t, c, polled(0, 0, 1), story[1])
	// Others are as they were.
	does(t, c, polled(0, 1, 1), api.ErrNone)
}

func TestAfter(t *testing.T) {
	c := filled(t)
	does(t, c, opened(0, 0, ofC, 1), api.OK)
	l := tells(t, c, polled(0, 0, 9), story...)
	for i, v := range l[:5] {
		for id := range 2 {
			does(t, c, resumed(id, 1, ofC, v.Token), api.OK)
			tells(t, c, polled(1-id, 1, 9), story[i+1:]...)
			does(t, c, begun(id, 2, ofC, v.Token), api.OK)
			tells(t, c, polled(1-id, 2, 9), story[i+1:]...)
		}
	}
	// Behind the end nothing follows, but another stream may begin there; any M but 0 says so.
	does(t, c, resumed(0, 1, ofC, l[5].Token), api.ErrEnded)
	for _, m := range []int{1, 2, -1, math.MinInt, math.MaxInt, 1 << 32} {
		a := begun(1, 3, ofC, l[5].Token)
		a.M = m
		does(t, c, a, api.OK)
		tells(t, c, polled(0, 3, 9), `7.1 create "c"`)
	}
}

// A token is looked at in the log of the node that is asked.
func TestAfterGoesByTheNodesLog(t *testing.T) {
	c := filled(t)
	does(t, c, opened(0, 0, api.Filter{}, 1), api.OK)
	l := does(t, c, polled(0, 0, 9), api.OK).Events
	does(t, c, at(api.ActCompact, 1), api.OK)
	does(t, c, asked(0, sample.AskCreate("d"), 1, 9), api.OK)
	arrives(t, c)
	does(t, c, polled(0, 0, 9), api.OK)
	ahead := c.Token(0)
	for kind, step := range map[string]func(id, place int, f api.Filter, b []byte) api.Act{"After": resumed, "StartAfter": begun} {
		// Of what was dropped.
		does(t, c, step(1, 1, api.Filter{}, l[2].Token), api.ErrGone)
		does(t, c, step(0, 1, api.Filter{}, l[2].Token), api.OK)
		// Just ahead of the first entry: whether it ended the stream is not known.
		does(t, c, step(1, 1, ofC, l[5].Token), api.ErrGone)
		does(t, c, step(1, 1, api.Filter{}, l[5].Token), api.OK)
		// Of what the node has not done.
		does(t, c, step(1, 1, api.Filter{}, ahead), api.ErrToken)
		does(t, c, step(0, 1, api.Filter{}, ahead), api.OK)
		// Of another term.
		b, e := token.Encode(api.Token{Kind: api.TokenEntry, Index: 7, Term: 2})
		if e != api.OK {
			t.Fatalf("%s: %d", kind, e)
		}
		does(t, c, step(0, 1, api.Filter{}, b), api.ErrToken)
	}
	does(t, c, resumed(1, 2, api.Filter{}, l[5].Token), api.OK)
	c.Settle(4)
	tells(t, c, polled(1, 2, 9), `8.1 create "d"`)
}

// Images are those of the state of the node that is asked.
func TestPollHasTheNodesImages(t *testing.T) {
	c := led(t, 1)
	does(t, c, asked(0, sample.AskCreate("c"), 1, 1), api.OK)
	doc := func(n int) api.Value { return sample.Item(sample.Number(1), sample.Number(n)) }
	does(t, c, asked(0, sample.AskInsert("c", doc(0)), 1, 2), api.OK)
	for n := range 6 {
		does(t, c, asked(0, sample.AskUpdate("c", sample.Number(1), sample.Ops(sample.Op(api.OpSet, "a", sample.Number(n+1)))), 1, 3+n), api.OK)
	}
	does(t, c, opened(0, 0, ofC, 4), api.OK)
	l := does(t, c, polled(0, 0, 64), api.OK).Events
	if len(l) != 6 {
		t.Fatalf("told is %s", show(l))
	}
	for n, v := range l {
		pre, had, post := doc(n), api.ImageHere, doc(n+1)
		if n < 2 {
			pre, had, post = api.Value{}, api.ImageExpired, api.Value{}
		}
		if !sample.Alike(v.Pre, pre) || v.Had != had || !sample.Alike(v.Post, post) || v.Has != had {
			t.Errorf("event %d is %s", n, show(v))
		}
	}
}

// Cursors outlive nodes.
func TestCursorsOutliveNodes(t *testing.T) {
	c := filled(t)
	does(t, c, opened(0, 0, ofC, 1), api.OK)
	tells(t, c, polled(0, 0, 2), story[:2]...)
	does(t, c, at(api.ActCrash, 0), api.OK)
	does(t, c, polled(0, 0, 2), api.ErrOff)
	tells(t, c, polled(1, 0, 1), story[2])
	does(t, c, at(api.ActBoot, 0), api.OK)
	// What it knows to be committed is nothing till it hears of it.
	tells(t, c, polled(0, 0, 2))
	c.Settle(40)
	tells(t, c, polled(0, 0, 9), story[3:]...)
}
