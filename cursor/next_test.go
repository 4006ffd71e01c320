package cursor_test

import (
	"fmt"
	"math"
	"slices"
	"testing"

	"tributary/api"
	"tributary/cursor"
	"tributary/event"
	"tributary/image"
	"tributary/sample"
)

// next asks for a batch that is told.
func next(t *testing.T, c *cursor.Cursor, first int, l []api.Entry, m *image.Images, most int) []api.Event {
	t.Helper()
	events, no := c.Next(first, l, m, most)
	if no != api.OK {
		t.Fatalf("Next(%d, %d entries, %d): %d", first, len(l), most, no)
	}
	if len(events) > most {
		t.Fatalf("%d events, where %d were asked for", len(events), most)
	}
	return events
}

// refused asks for a batch that is refused: the cursor stays as it was.
func refused(t *testing.T, c *cursor.Cursor, first int, l []api.Entry, m *image.Images, most int, want api.Errno) {
	t.Helper()
	f, pos, ended, code := c.Filter(), c.Pos(), c.Ended(), c.Token()
	if events, no := c.Next(first, l, m, most); no != want || len(events) != 0 {
		t.Errorf("Next(%d, %d entries, %d): %s, %d, want %d", first, len(l), most, show(events), no, want)
	}
	stands(t, c, f, pos, ended, code)
}

// told asks whether an event is that of an entry, of which nothing was known.
func told(t *testing.T, v api.Event, e api.Entry, index int) {
	t.Helper()
	want, no := event.Of(e, index, api.Value{}, api.ImageExpired)
	if no != api.OK || !alikeEvents(v, want) {
		t.Errorf("told is %s, want %s, %d", show(v), show(want), no)
	}
}

// imagesOf answers images of the last keep of these documents, behind base; {} is none.
func imagesOf(t *testing.T, keep, base int, l ...api.Value) *image.Images {
	t.Helper()
	m, no := image.New(keep, base)
	for _, v := range l {
		if no = m.Note(v, v.Kind != 0); no != api.OK {
			t.Fatalf("Note(%s): %d", show(v), no)
		}
	}
	return m
}

// P21.2: Next.

func TestExample(t *testing.T) {
	l := termed(1, create("c"), dropAll("c"))
	c := at(t, ofC, 1)
	events := next(t, c, 1, l, nil, 64)
	if len(events) != 3 {
		t.Fatal("just so many:", len(events))
	}
	told(t, events[0], l[0], 1)
	told(t, events[1], l[1], 2)
	isEnd(t, events[2], 2, 1, "c")
	stands(t, c, ofC, 3, true, end(t, 2, 1))
	refused(t, c, 1, l, nil, 64, api.ErrEnded)
}

func TestAnEndIsDueWhenABatchIsFull(t *testing.T) {
	l := append(termed(1, create("c"), insert("c", item(number(1)))), termed(4, dropAll("c"), create("c"), noop)...)
	for _, last := range []api.Entry{l[2], by(rename("c", "d"), 4, 0, 0)} {
		l[2] = last
		c := at(t, ofC, 1)
		if events := next(t, c, 1, l, nil, 3); len(events) != 3 {
			t.Fatal("just so many:", len(events))
		}
		stands(t, c, ofC, 4, false, behind(t, 3, 4))
		// The end is told, whatever part of the log is handed in; and nothing behind it.
		for _, p := range []part{partOf(1, 0, l...), partOf(1, 0), partOf(3, 1, l[2:]...), partOf(4, 4, l[3:]...), partOf(100, 4), partOf(math.MaxInt, 4, l...)} {
			for _, most := range []int{1, 2, 64} {
				d := c.Fork()
				refused(t, d, 0, p.l, nil, most, api.ErrArg)
				refused(t, d, p.first, p.l, nil, 65, api.ErrArg)
				events := next(t, d, p.first, p.l, nil, most)
				if len(events) != 1 {
					t.Fatal("just so many:", len(events))
				}
				isEnd(t, events[0], 3, 4, "c")
				stands(t, d, ofC, 4, true, end(t, 3, 4))
				refused(t, d, p.first, p.l, nil, most, api.ErrEnded)
			}
		}
		stands(t, c, ofC, 4, false, behind(t, 3, 4))
	}
}

func TestAnEndOfAnEntryThatDoesNotMatch(t *testing.T) {
	l := termed(2, create("c"), noop, dropAll("c"), create("c"))
	for _, f := range []api.Filter{{Coll: "c", Kinds: kinds(api.EntryCreate)}, {Coll: "c", Path: []string{"a"}, Kinds: kinds(api.EntryCreate, api.EntryRename)}} {
		c := at(t, f, 1)
		events := next(t, c, 1, l, nil, 64)
		if len(events) != 2 {
			t.Fatal("just so many:", len(events))
		}
		told(t, events[0], l[0], 1)
		isEnd(t, events[1], 3, 2, "c")
		stands(t, c, f, 4, true, end(t, 3, 2))
		// A batch that is full looks no further.
		c = at(t, f, 1)
		next(t, c, 1, l, nil, 1)
		stands(t, c, f, 2, false, behind(t, 1, 2))
		events = next(t, c, 1, l, nil, 1)
		isEnd(t, events[0], 3, 2, "c")
		stands(t, c, f, 4, true, end(t, 3, 2))
	}
}

func TestWhatEndsNothing(t *testing.T) {
	l := termed(1, create("c"), dropAll("d"), rename("d", "c"), rename("d", "e"), remove("c", null), noop, api.Entry{Kind: api.EntryDrop, Coll: "c", To: "d"}, api.Entry{}, create("c"))
	c := at(t, ofC, 1)
	events := next(t, c, 1, l, nil, 64)
	if len(events) != 4 {
		t.Fatal("just so many:", len(events))
	}
	for i, index := range []int{1, 3, 5, 9} {
		told(t, events[i], l[index-1], index)
	}
	stands(t, c, ofC, 10, false, behind(t, 9, 1))
	// Of all collections no entry ends a stream.
	c = at(t, all, 1)
	if events := next(t, c, 1, termed(1, create("c"), dropAll("c"), rename("c", "d")), nil, 64); len(events) != 3 {
		t.Error("just so many:", len(events))
	}
	stands(t, c, all, 4, false, behind(t, 3, 1))
}

func TestNextRefuses(t *testing.T) {
	l := termed(1, create("c"), dropAll("c"))
	for _, i := range []int{1, 2, 5} {
		c := at(t, ofC, i)
		for _, first := range []int{0, -1, math.MinInt} {
			for _, most := range []int{1, 64, 0} {
				refused(t, c, first, l, nil, most, api.ErrArg)
			}
		}
		for _, most := range []int{0, -1, 65, 66, 1 << 32, 1<<32 + 1, math.MaxInt, math.MinInt} {
			for _, first := range []int{1, i, i + 1, 100} {
				refused(t, c, first, l, nil, most, api.ErrArg)
			}
		}
		for _, first := range []int{i + 1, i + 2, 1 << 40, math.MaxInt} {
			for _, most := range []int{1, 64} {
				refused(t, c, first, l, nil, most, api.ErrGone)
				refused(t, c, first, nil, nil, most, api.ErrGone)
			}
		}
	}
	c := at(t, ofC, 1)
	next(t, c, 1, l, nil, 64)
	// That it has ended comes behind what may not be, and ahead of what is gone.
	refused(t, c, 0, l, nil, 1, api.ErrArg)
	refused(t, c, 1, l, nil, 0, api.ErrArg)
	refused(t, c, 1, l, nil, 65, api.ErrArg)
	for _, first := range []int{1, 2, 3, 4, 100, math.MaxInt} {
		refused(t, c, first, l, nil, 1, api.ErrEnded)
		refused(t, c, first, nil, nil, 64, api.ErrEnded)
	}
}

func TestPartsAheadOfTheIndexAndBehindIt(t *testing.T) {
	l := termed(1, create("a"), create("b"), create("c"), create("d"), create("e"))
	for i := 1; i <= 8; i++ {
		for first := 1; first <= 6; first++ {
			for last := first - 1; last <= 5; last++ {
				c, own := at(t, all, i), l[first-1:last]
				if i < first {
					refused(t, c, first, own, nil, 64, api.ErrGone)
					continue
				}
				events := next(t, c, first, own, nil, 64)
				if len(events) != max(0, last+1-i) {
					t.Fatalf("from %d on, of %d to %d: %d events", i, first, last, len(events))
				}
				for k, v := range events {
					told(t, v, l[i+k-1], i+k)
				}
				if len(events) == 0 {
					stands(t, c, all, i, false, nil)
				} else {
					stands(t, c, all, last+1, false, behind(t, last, 1))
				}
			}
		}
	}
}

func TestBatchesOfOneAndOfTheMost(t *testing.T) {
	var l []api.Entry
	for i := range 200 {
		l = append(l, by(create(fmt.Sprint("c", i)), 1+i/50, 1, i+1), by(noop, 1+i/50, 0, 0))
	}
	for _, most := range []int{1, 2, 63, 64} {
		c, count := at(t, all, 1), 0
		for count < 200 {
			events := next(t, c, 1, l, nil, most)
			if len(events) != min(most, 200-count) {
				t.Fatalf("of %d events %d are told at once", most, len(events))
			}
			for _, v := range events {
				told(t, v, l[2*count], 2*count+1)
				count++
			}
			// A batch that is full stands just behind its last event.
			pos := 2 * count
			if len(events) < most {
				pos = 401
			}
			stands(t, c, all, pos, false, behind(t, 2*count-1, 1+(count-1)/50))
		}
		if events := next(t, c, 1, l, nil, most); len(events) != 0 || c.Pos() != 401 {
			t.Errorf("behind all: %d events, it stands at %d", len(events), c.Pos())
		}
	}
}

func TestWhatDoesNotMatchIsPassed(t *testing.T) {
	f := api.Filter{Coll: "c", Path: []string{"a", "b"}, Kinds: kinds(api.EntryInsert, api.EntryUpdate)}
	l := termed(3, noop, create("c"), insert("c", item(number(1))), insert("d", item(number(1), one("b", null))), update("c", number(1), set("x", null)), update("d", number(1), set("a", null)), remove("c", number(1)), api.Entry{Kind: 9, Coll: "c"})
	c := at(t, f, 1)
	if events := next(t, c, 1, l, nil, 1); len(events) != 0 {
		t.Errorf("told are %s", show(events))
	}
	stands(t, c, f, 9, false, nil)
	l = append(l, termed(3, insert("c", item(number(2), one("b", null))), noop, update("c", number(2), set("a", null)), noop)...)
	events := next(t, c, 1, l, nil, 64)
	if len(events) != 2 {
		t.Fatal("just so many:", len(events))
	}
	told(t, events[0], l[8], 9)
	told(t, events[1], l[10], 11)
	stands(t, c, f, 13, false, behind(t, 11, 3))
}

// What is known of documents.

func TestImages(t *testing.T) {
	was, now := item(number(1), number(5)), item(number(1), number(6))
	l := termed(1, create("c"), insert("c", was), update("c", number(1), set("a", number(6))), remove("c", number(1)))
	none := api.Value{}
	notes := []api.Value{none, none, was, now}
	for keep := range 6 {
		m := imagesOf(t, keep, 0, notes...)
		events := next(t, at(t, all, 1), 1, l, m, 64)
		for i, v := range events {
			had, pre, has, post := api.ImageExpired, none, api.ImageNone, none
			if i >= 4-keep {
				had, pre = api.ImageNone, notes[i]
				if pre.Kind != 0 {
					had = api.ImageHere
				}
			}
			switch i {
			case 1:
				has, post = api.ImageHere, was
			case 2:
				if has = api.ImageExpired; had == api.ImageHere {
					has, post = api.ImageHere, now
				}
			}
			if v.Had != had || !sample.Alike(v.Pre, pre) || v.Has != has || !sample.Alike(v.Post, post) || v.Index != i+1 {
				t.Errorf("of %d images: %s", keep, show(v))
			}
		}
		if len(events) != 4 {
			t.Error("just so many:", len(events))
		}
	}
}

func TestImagesThatKnowNothing(t *testing.T) {
	l := termed(1, create("c"), remove("c", null))
	for _, m := range []*image.Images{nil, imagesOf(t, 0, 0, null, null), imagesOf(t, 64, 0), imagesOf(t, 64, 100, null), imagesOf(t, 1, 0, null, null, null)} {
		for i, v := range next(t, at(t, all, 1), 1, l, m, 64) {
			told(t, v, l[i], i+1)
		}
	}
	// Those whose top is lower know of the first one alone.
	events := next(t, at(t, all, 1), 1, l, imagesOf(t, 64, 0, null), 64)
	if len(events) != 2 || events[0].Had != api.ImageHere || events[1].Had != api.ImageExpired {
		t.Errorf("told are %s", show(events))
	}
}

// What event's Of, or End, refuses.

func TestARefusedEventChangesNothing(t *testing.T) {
	v := item(number(1), number(5))
	for _, x := range []struct {
		f    api.Filter
		e    api.Entry
		pre  api.Value
		no   api.Errno
		good int
	}{
		{all, by(create("d"), 0, 0, 0), api.Value{}, api.ErrArg, 2},
		{ofC, by(dropAll("c"), 0, 0, 0), api.Value{}, api.ErrArg, 2},
		{all, by(update("c", number(1), set("a.b", null)), 1, 0, 0), v, api.ErrPath, 2},
		{all, by(update("c", number(1), set("a", null)), 1, 0, 0), number(5), api.ErrValue, 2},
		// An end is told of an entry that does not match.
		{api.Filter{Coll: "c", Kinds: 252 - kinds(api.EntryDrop)}, by(dropAll("c"), 0, 0, 0), api.Value{}, api.ErrArg, 2},
		{api.Filter{Coll: "c", Kinds: kinds(api.EntryDelete)}, by(rename("c", "d"), 0, 0, 0), api.Value{}, api.ErrArg, 0},
	} {
		l := append(termed(1, create("c"), insert("c", v)), x.e, by(noop, 1, 0, 0), by(create("e"), 1, 0, 0))
		m := imagesOf(t, 64, 0, api.Value{}, api.Value{}, x.pre)
		c := at(t, x.f, 1)
		refused(t, c, 1, l, m, 64, x.no)
		refused(t, c, 1, l, m, x.good+1, x.no)
		if x.good > 0 {
			events := next(t, c, 1, l, m, x.good)
			if len(events) != x.good {
				t.Fatal("just so many:", len(events))
			}
			stands(t, c, x.f, 3, false, behind(t, 2, 1))
		}
		for _, most := range []int{1, 2, 64} {
			first := c.Pos()
			refused(t, c, 1, l, m, most, x.no)
			refused(t, c, first, l[first-1:], m, most, x.no)
		}
	}
}

func TestARefusedDocumentIsToldWithoutImages(t *testing.T) {
	l := termed(1, update("c", number(1), set("a.b", null)))
	c := at(t, all, 1)
	refused(t, c, 1, l, imagesOf(t, 1, 0, item(number(1), number(5))), 1, api.ErrPath)
	told(t, next(t, c, 1, l, nil, 1)[0], l[0], 1)
}

func TestIndexesBeyondTheLast(t *testing.T) {
	l := termed(1, create("a"), noop, create("c"), dropAll("c"))
	c := at(t, all, 1<<40)
	told(t, next(t, c, 1<<40, l[:2], nil, 64)[0], l[0], 1<<40)
	stands(t, c, all, 1<<40+2, false, behind(t, 1<<40, 1))
	refused(t, c, 1<<40, l, nil, 64, api.ErrArg)
	// Of what does not match no event is made; nor is one of an end.
	c = at(t, api.Filter{Coll: "c", Kinds: kinds(api.EntryInsert)}, 1<<40)
	if events := next(t, c, 1<<40, l[:3], nil, 64); len(events) != 0 || c.Pos() != 1<<40+3 {
		t.Errorf("told are %s, it stands at %d", show(events), c.Pos())
	}
	refused(t, c, 1<<40, l, nil, 64, api.ErrArg)
}

// P21.3: Filter, Token, Fork.

func TestForksGoTheirOwnWays(t *testing.T) {
	l := termed(1, create("c"), insert("c", item(number(1))), dropAll("c"))
	c := at(t, ofC, 1)
	for step := range 4 {
		other := c.Fork()
		stands(t, other, ofC, c.Pos(), c.Ended(), c.Token())
		pos, code := c.Pos(), c.Token()
		one := next(t, other, 1, l, nil, 1)
		stands(t, c, ofC, pos, false, code)
		two := next(t, c, 1, l, nil, 1)
		if len(one) != 1 || len(two) != 1 || !alikeEvents(one[0], two[0]) {
			t.Errorf("at the step %d a fork tells %s, want %s", step, show(one), show(two))
		}
		stands(t, other, ofC, c.Pos(), c.Ended(), c.Token())
	}
	refused(t, c.Fork(), 1, l, nil, 1, api.ErrEnded)
}

func TestTokensOfWhatWasToldLast(t *testing.T) {
	l := termed(2, create("c"), noop, insert("c", item(number(1))), create("d"))
	c, no := cursor.After(ofC, behind(t, 0, 0), 1, 0, l)
	if no != api.OK {
		t.Fatal("After:", no)
	}
	stands(t, c, ofC, 1, false, behind(t, 0, 0))
	events := next(t, c, 1, l[:1], nil, 64)
	stands(t, c, ofC, 2, false, events[0].Token)
	next(t, c, 1, l[:2], nil, 64)
	stands(t, c, ofC, 3, false, behind(t, 1, 2))
	next(t, c, 1, l, nil, 64)
	stands(t, c, ofC, 5, false, behind(t, 3, 2))
}

// Memory.

func TestWhatIsHandedInIsNotKept(t *testing.T) {
	f := api.Filter{Coll: "c", Path: []string{"a", "b"}, Kinds: 252}
	l := termed(1, insert("c", item(array(number(1)), one("b", array(null)))), update("c", array(number(1)), set("a.b", array(null))), dropAll("c"))
	for _, begin := range []func(f api.Filter, b []byte) (*cursor.Cursor, api.Errno){
		func(f api.Filter, _ []byte) (*cursor.Cursor, api.Errno) { return cursor.At(f, 1) },
		func(f api.Filter, b []byte) (*cursor.Cursor, api.Errno) { return cursor.After(f, b, 1, 0, l) },
		func(f api.Filter, b []byte) (*cursor.Cursor, api.Errno) { return cursor.StartAfter(f, b, 1, 0, l) },
	} {
		own, code := f, behind(t, 0, 0)
		own.Path = sample.RoomySteps(f.Path)
		b, all := sample.RoomyBytes(code), sample.RoomyLog(l)
		c, no := begin(own, b)
		if no != api.OK {
			t.Fatal("no cursor:", no)
		}
		was := c.Token()
		if !slices.Equal(own.Path[:4], []string{"a", "b", "room", "room"}) || !sample.UntouchedBytes(b, code) {
			t.Error("what is handed in is changed")
		}
		clear(own.Path[:cap(own.Path)])
		clear(b[:cap(b)])
		stands(t, c, f, 1, false, was)
		events := next(t, c, 1, all, imagesOf(t, 64, 0, api.Value{}, item(null), item(null)), 64)
		if len(events) != 4 || !sample.UntouchedLog(all, l) {
			t.Errorf("%d events; the entries are as they were: %v", len(events), sample.UntouchedLog(all, l))
		}
		for i, v := range events {
			sample.SpoilEvent(v)
			if !sample.UntouchedLog(all, l) {
				t.Errorf("the event %d is memory that was handed in", i+1)
			}
		}
		stands(t, c, f, 4, true, end(t, 3, 1))
	}
}

func TestWhatIsAnsweredIsNewMemory(t *testing.T) {
	f := api.Filter{Coll: "c", Path: []string{"a", "b"}}
	l := termed(1, create("c"), create("c"), create("c"))
	c := at(t, f, 1)
	other := c.Fork()
	last := []byte(nil)
	for i := range l {
		events := next(t, c, 1, l, nil, 1)
		spoiled := c.Filter()
		clear(spoiled.Path[:cap(spoiled.Path)])
		for _, b := range [][]byte{events[0].Token, c.Token(), c.Fork().Token()} {
			clear(b[:cap(b)])
		}
		clear(c.Fork().Filter().Path)
		stands(t, c, f, i+2, false, behind(t, i+1, 1))
		stands(t, other, f, i+1, false, last)
		next(t, other, 1, l, nil, 1)
		last = behind(t, i+1, 1)
	}
}

func TestNoTwoEventsShareAnything(t *testing.T) {
	shared := item(array(null), array(null))
	e := by(update("c", array(null), set("a", shared)), 1, 0, 0)
	l := []api.Entry{by(insert("c", shared), 1, 0, 0), e, e, e}
	m := imagesOf(t, 64, 0, shared, shared, shared, shared)
	fresh := next(t, at(t, all, 1), 1, l, m, 64)
	for i := range fresh {
		events := next(t, at(t, all, 1), 1, l, m, 64)
		sample.SpoilEvent(events[i])
		for k := range events {
			if k != i && !alikeEvents(events[k], fresh[k]) {
				t.Errorf("the events %d and %d share something", i+1, k+1)
			}
		}
	}
	if again := next(t, at(t, all, 1), 1, l, m, 64); !slices.EqualFunc(again, fresh, alikeEvents) {
		t.Error("what was answered is kept")
	}
}
