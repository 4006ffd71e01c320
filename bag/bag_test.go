package bag_test

import (
	"fmt"
	"math"
	"slices"
	"strings"
	"testing"

	"tributary/api"
	"tributary/bag"
	"tributary/sample"
)

// nth answers a message that may be; each n makes another one, of nodes that go by turns.
func nth(n int) api.Msg {
	from, to := n%7, (n+1+n/7%6)%7
	switch n % 3 {
	case 0:
		return api.Msg{Kind: api.MsgAppend, From: from, To: to, Term: 1 + n, Index: 5, LogTerm: 1, Commit: 3, Round: 2, Entries: []api.Entry{
			sample.By(sample.Insert("c", sample.Item(sample.Number(n), sample.Array(sample.Null()))), 1, 1, 1),
			sample.By(sample.Update("c", sample.Number(1), sample.Set("a.b", sample.Array(sample.Number(n)))), 1, 1, 2),
		}}
	case 1:
		return api.Msg{Kind: api.MsgSnap, From: from, To: to, Term: 1 + n, Index: 4, LogTerm: 1, Snap: []byte(fmt.Sprint("snap", n))}
	}
	return api.Msg{Kind: api.MsgVoted, From: from, To: to, Term: 1 + n, Ok: true}
}

// upTo answers nth of all from a number on, up to and without another one.
func upTo(from, to int) []api.Msg {
	var l []api.Msg
	for n := from; n < to; n++ {
		l = append(l, nth(n))
	}
	return l
}

// show is how a failed test tells of what may be long.
func show(x any) string { return fmt.Sprintf("%.300s", fmt.Sprint(x)) }

// put puts messages, of which so many must be lost.
func put(t *testing.T, b *bag.Bag, lost int, l ...api.Msg) {
	t.Helper()
	if n, e := b.Put(l...); n != lost || e != api.OK {
		t.Errorf("Put of %d: %d, %d, want %d, 0", len(l), n, e, lost)
	}
}

// full answers a bag in which messages were put.
func full(t *testing.T, l ...api.Msg) *bag.Bag {
	t.Helper()
	b := bag.New()
	put(t, b, 0, l...)
	return b
}

// holds asks whether a bag has just these messages, in order.
func holds(t *testing.T, b *bag.Bag, want ...api.Msg) {
	t.Helper()
	if n := b.Len(); n != len(want) {
		t.Fatalf("Len() = %d, want %d", n, len(want))
	}
	for i, m := range want {
		if got, e := b.Get(i); e != api.OK || !sample.AlikeMsgs(got, m) {
			t.Fatalf("Get(%d) = %s, %d, want %s", i, show(got), e, show(m))
		}
	}
	place := 0
	for i, m := range b.All() {
		if i != place || place >= len(want) || !sample.AlikeMsgs(m, want[place]) {
			t.Fatalf("All() goes over %d, %s behind %d places", i, show(m), place)
		}
		place++
	}
	if place != len(want) {
		t.Fatalf("All() goes over %d places of %d", place, len(want))
	}
	for _, i := range []int{-1, len(want), len(want) + 1, math.MinInt, math.MaxInt, 1 << 32, -1 << 32} {
		if m, e := b.Get(i); e != api.ErrNone || !sample.AlikeMsgs(m, api.Msg{}) {
			t.Fatalf("Get(%d) of %d = %s, %d, want ErrNone", i, len(want), show(m), e)
		}
	}
}

func TestExample(t *testing.T) {
	b := full(t, upTo(0, 3)...)
	if m, e := b.Take(1); e != api.OK || !sample.AlikeMsgs(m, nth(1)) {
		t.Errorf("Take(1) = %s, %d", show(m), e)
	}
	holds(t, b, nth(0), nth(2))
}

// P25.1: Put.

func TestNewIsEmpty(t *testing.T) {
	holds(t, bag.New())
}

func TestPutGoesBehind(t *testing.T) {
	b := bag.New()
	put(t, b, 0)
	holds(t, b)
	put(t, b, 0, nth(0))
	put(t, b, 0, upTo(1, 4)...)
	put(t, b, 0)
	// The same one may be there twice.
	put(t, b, 0, nth(2), nth(2))
	holds(t, b, nth(0), nth(1), nth(2), nth(3), nth(2), nth(2))
}

// bad are messages that may not be.
func bad() []api.Msg {
	l := []api.Msg{{}, {Kind: 6, To: 1, Term: 1}}
	for _, n := range []int{-1, 7, math.MaxInt} {
		l = append(l, sample.Msg(api.MsgVote, n, 1, 1), sample.Msg(api.MsgVote, 1, n, 1))
	}
	long := nth(0)
	long.Entries = slices.Repeat([]api.Entry{sample.Noop()}, 9)
	wrong := nth(0)
	wrong.Entries[1].Coll = "$"
	return append(l, sample.Msg(api.MsgVote, 1, 1, 1), sample.Msg(api.MsgVote, 0, 1, 0), sample.Msg(api.MsgVote, 0, 1, 1<<40+1), api.Msg{Kind: api.MsgVote, To: 1, Term: 1, Ok: true},
		sample.Msg(api.MsgSnap, 0, 1, 1), api.Msg{Kind: api.MsgSnap, To: 1, Term: 1, Snap: make([]byte, 1<<16+1)}, long, wrong)
}

func TestPutRefusesWhatMayNotBe(t *testing.T) {
	for _, m := range bad() {
		for place := range 4 {
			b := full(t, upTo(0, 2)...)
			l := slices.Insert(upTo(2, 5), place, m)
			if n, e := b.Put(l...); n != 0 || e != api.ErrArg {
				t.Errorf("Put with %s at %d: %d, %d, want ErrArg", show(m), place, n, e)
			}
			holds(t, b, upTo(0, 2)...)
		}
	}
	// Nor is one lost for it.
	b := full(t, upTo(0, 256)...)
	if n, e := b.Put(nth(256), api.Msg{}); n != 0 || e != api.ErrArg {
		t.Errorf("Put of what may not be to a full bag: %d, %d", n, e)
	}
	if n, e := b.Put(append(upTo(256, 600), api.Msg{})...); n != 0 || e != api.ErrArg {
		t.Errorf("Put of many, one of which may not be: %d, %d", n, e)
	}
	holds(t, b, upTo(0, 256)...)
}

func TestPutLosesTheEldest(t *testing.T) {
	for _, have := range []int{0, 1, 100, 255, 256} {
		for _, more := range []int{0, 1, 2, 155, 156, 157, 255, 256, 257, 511, 512, 513, 700} {
			b := full(t, upTo(0, have)...)
			lost := max(have+more-256, 0)
			put(t, b, lost, upTo(have, have+more)...)
			holds(t, b, upTo(lost, have+more)...)
		}
	}
	// One by one, too.
	b := bag.New()
	for n := range 600 {
		put(t, b, min(max(n-255, 0), 1), nth(n))
	}
	holds(t, b, upTo(344, 600)...)
}

// P25.1: Get, Take and Lose.

func TestTakeAndLose(t *testing.T) {
	for count := range 6 {
		for i := -2; i <= count+2; i++ {
			all := upTo(0, count)
			b, c := full(t, all...), full(t, all...)
			m, e := b.Take(i)
			lost := c.Lose(i)
			if i < 0 || i >= count {
				if e != api.ErrNone || lost != api.ErrNone || !sample.AlikeMsgs(m, api.Msg{}) {
					t.Errorf("of %d: Take(%d) = %s, %d; Lose(%d) = %d, want ErrNone", count, i, show(m), e, i, lost)
				}
			} else {
				if e != api.OK || lost != api.OK || !sample.AlikeMsgs(m, all[i]) {
					t.Errorf("of %d: Take(%d) = %s, %d; Lose(%d) = %d", count, i, show(m), e, i, lost)
				}
				all = slices.Delete(all, i, i+1)
			}
			holds(t, b, all...)
			holds(t, c, all...)
		}
	}
	b := full(t, upTo(0, 3)...)
	for _, i := range []int{math.MinInt, math.MaxInt, 1 << 32, 1<<32 + 1, -1 << 32} {
		if m, e := b.Take(i); e != api.ErrNone || !sample.AlikeMsgs(m, api.Msg{}) || b.Lose(i) != api.ErrNone {
			t.Errorf("Take(%d) = %s, %d", i, show(m), e)
		}
	}
	holds(t, b, upTo(0, 3)...)
}

// What was taken makes room.
func TestTakeMakesRoom(t *testing.T) {
	b := full(t, upTo(0, 256)...)
	b.Take(255)
	b.Lose(0)
	put(t, b, 0, nth(300), nth(301))
	put(t, b, 1, nth(302))
	holds(t, b, append(upTo(2, 255), nth(300), nth(301), nth(302))...)
}

// P25.1: Lost.

func TestLost(t *testing.T) {
	var all []api.Msg
	for from := range 7 {
		for to := range 7 {
			if from != to {
				all = append(all, sample.Msg(api.MsgVote, from, to, 1+len(all)))
			}
		}
	}
	for _, node := range []int{0, 1, 2, 3, 4, 5, 6, -1, 7, math.MinInt, math.MaxInt, 1 << 32} {
		b := full(t, all...)
		left := slices.DeleteFunc(slices.Clone(all), func(m api.Msg) bool { return m.From == node || m.To == node })
		if n := b.Lost(node); n != len(all)-len(left) || node >= 0 && node < 7 && n != 12 {
			t.Errorf("Lost(%d) = %d of %d", node, n, len(all))
		}
		holds(t, b, left...)
		if n := b.Lost(node); n != 0 {
			t.Errorf("Lost(%d) again = %d", node, n)
		}
		holds(t, b, left...)
	}
	if n := bag.New().Lost(0); n != 0 {
		t.Errorf("Lost(0) of nothing = %d", n)
	}
}

// P25.1: All; R5.

func TestAllMayBeStoppedAndBeginsAnew(t *testing.T) {
	all := upTo(0, 5)
	b := full(t, all...)
	l := b.All()
	for stop := range 5 {
		n := 0
		for i, m := range l {
			if i != n || !sample.AlikeMsgs(m, all[n]) {
				t.Errorf("goes over %d, %s behind %d places", i, show(m), n)
			}
			n++
			if i == stop {
				break
			}
		}
		if n != stop+1 {
			t.Errorf("stopped at %d it went over %d", stop, n)
		}
	}
	holds(t, b, all...)
}

// It goes over what there is when it is ranged over, not when it was made.
func TestAllIsAsTheBagIs(t *testing.T) {
	b := bag.New()
	l := b.All()
	count := func() int {
		n := 0
		for range l {
			n++
		}
		return n
	}
	for n := range 3 {
		if got := count(); got != n {
			t.Errorf("it goes over %d, there are %d", got, n)
		}
		put(t, b, 0, nth(n))
	}
	b.Lost(nth(1).From)
	if got := count(); got != b.Len() {
		t.Errorf("it goes over %d, there are %d", got, b.Len())
	}
}

func TestAllWithin(t *testing.T) {
	b, n := full(t, upTo(0, 4)...), 0
	l := b.All()
	for i := range l {
		for k := range l {
			n += 10*i + k
		}
	}
	if n != 4*60+4*6 {
		t.Errorf("one within the other: %d", n)
	}
}

// A nil Bag.
func TestNilBag(t *testing.T) {
	var b *bag.Bag
	for _, l := range [][]api.Msg{nil, upTo(0, 2), {{}}} {
		if n, e := b.Put(l...); n != 0 || e != api.ErrClosed {
			t.Errorf("Put: %d, %d", n, e)
		}
	}
	for _, i := range []int{-1, 0, 1} {
		m, e := b.Get(i)
		x, no := b.Take(i)
		if e != api.ErrClosed || no != api.ErrClosed || b.Lose(i) != api.ErrClosed || !sample.AlikeMsgs(m, api.Msg{}) || !sample.AlikeMsgs(x, api.Msg{}) {
			t.Errorf("Get(%d): %d, Take: %d", i, e, no)
		}
		if n := b.Lost(i); n != 0 {
			t.Errorf("Lost(%d) = %d", i, n)
		}
	}
	if b.Len() != 0 {
		t.Errorf("Len() = %d", b.Len())
	}
	for i := range b.All() {
		t.Errorf("All() goes over %d", i)
	}
}

// R3: memory.

func TestPutTouchesAndKeepsNothing(t *testing.T) {
	all := upTo(0, 9)
	var l []api.Msg
	for _, m := range all {
		l = append(l, sample.RoomyMsg(m))
	}
	l = append(l, nth(100))[:len(l)]
	b := bag.New()
	put(t, b, 0, l...)
	for i, m := range l {
		if !sample.UntouchedMsg(m, all[i]) {
			t.Errorf("Put touched %s", show(m))
		}
	}
	if !sample.AlikeMsgs(l[:10][9], nth(100)) {
		t.Error("Put touched the room behind the list")
	}
	for _, m := range l {
		sample.SpoilMsg(m)
	}
	clear(l[:cap(l)])
	holds(t, b, all...)
}

func TestAnswersAreNewMemory(t *testing.T) {
	all := upTo(0, 9)
	b := full(t, all...)
	for i := range all {
		m, _ := b.Get(i)
		sample.SpoilMsg(m)
	}
	holds(t, b, all...)
	for _, m := range b.All() {
		sample.SpoilMsg(m)
	}
	holds(t, b, all...)
	m, _ := b.Get(0)
	n, _ := b.Get(0)
	sample.SpoilMsg(n)
	if !sample.AlikeMsgs(m, all[0]) {
		t.Error("what is got twice shares something")
	}
	for i := range all {
		m, _ := b.Take(0)
		sample.SpoilMsg(m)
		holds(t, b, all[i+1:]...)
	}
}

// P25.2: what was put, and was neither taken nor lost, is there, in order; there are never more than 256.

func TestBagsByChance(t *testing.T) {
	chance, found, n := sample.Chance(251), map[string]int{}, 0
	for range 40 {
		b, plain := bag.New(), []api.Msg{}
		for range 400 {
			switch kind := chance.Below(10); {
			case kind < 5:
				l := upTo(n, n+chance.Below(1+chance.Below(1+chance.Below(40))))
				n += len(l)
				plain = append(plain, l...)
				lost := max(len(plain)-256, 0)
				plain = plain[lost:]
				put(t, b, lost, l...)
				found[fmt.Sprint("lost ", min(lost, 2))]++
			case kind < 9:
				i := chance.Below(len(plain)+3) - 1
				if i < 0 || i >= len(plain) {
					if _, e := b.Take(i); e != api.ErrNone {
						t.Fatalf("Take(%d) of %d: %d", i, len(plain), e)
					}
					continue
				}
				if kind == 8 {
					if e := b.Lose(i); e != api.OK {
						t.Fatalf("Lose(%d) of %d: %d", i, len(plain), e)
					}
				} else if m, e := b.Take(i); e != api.OK || !sample.AlikeMsgs(m, plain[i]) {
					t.Fatalf("Take(%d) = %s, %d, want %s", i, show(m), e, show(plain[i]))
				}
				plain = slices.Delete(plain, i, i+1)
				found["taken"]++
			case chance.Below(12) == 0:
				node, was := chance.Below(8), len(plain)
				plain = slices.DeleteFunc(plain, func(m api.Msg) bool { return m.From == node || m.To == node })
				if got := b.Lost(node); got != was-len(plain) {
					t.Fatalf("Lost(%d) = %d of %d, want %d", node, got, was, was-len(plain))
				}
				found["cut"]++
			}
			if chance.Below(20) == 0 {
				holds(t, b, plain...)
			}
		}
		holds(t, b, plain...)
	}
	for _, what := range []string{"lost 0", "lost 1", "lost 2", "taken", "cut"} {
		if found[what] < 30 {
			t.Errorf("just so many of %s: %d", what, found[what])
		}
	}
}

// Long messages go as they are.
func TestLongMessages(t *testing.T) {
	l := []api.Msg{
		{Kind: api.MsgSnap, From: 6, To: 5, Term: 1 << 40, Index: 1 << 40, LogTerm: 1 << 40, Snap: []byte(strings.Repeat("s", 1<<16))},
		{Kind: api.MsgAppend, From: 0, To: 1, Term: 1, Entries: slices.Repeat([]api.Entry{sample.Insert("c", sample.Doc([]string{"_id", "t"}, sample.Null(), sample.Text(strings.Repeat("x", 4080))))}, 8)},
	}
	holds(t, full(t, l...), l...)
}
