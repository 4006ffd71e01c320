package cursor_test

import (
	"fmt"
	"slices"
	"testing"

	"tributary/api"
	"tributary/apply"
	"tributary/coll"
	"tributary/cursor"
	"tributary/event"
	"tributary/filter"
	"tributary/image"
	"tributary/sample"
	"tributary/snap"
	"tributary/token"
)

// P21.4: however batches are cut, the events are the same; resumed from any event's token, a cursor tells just those that followed.

// stream answers all events of a log from an index on, as the chapter's words say them, without batches; its entries are those from index 1 on.
func stream(t *testing.T, f api.Filter, at int, l []api.Entry, m *image.Images) []api.Event {
	t.Helper()
	var events []api.Event
	add := func(v api.Event, no api.Errno) {
		if no != api.OK {
			t.Fatalf("an event: %d", no)
		}
		events = append(events, v)
	}
	for index := at; index <= len(l); index++ {
		e := l[index-1]
		if filter.Match(f, e) {
			pre, had, no := m.Get(index)
			if no != api.OK {
				pre, had = api.Value{}, api.ImageExpired
			}
			add(event.Of(e, index, pre, had))
		}
		if filter.Ends(f, e) {
			add(event.End(index, e.Term, f.Coll))
			break
		}
	}
	return events
}

// drained asks whether a cursor tells just these events of a log, in batches of as many as most says, one behind the other, and then nothing.
func drained(t *testing.T, c *cursor.Cursor, l []api.Entry, m *image.Images, most func() int, want []api.Event) {
	t.Helper()
	ended := len(want) > 0 && want[len(want)-1].Kind == api.EventInvalid
	for {
		n := most()
		events := next(t, c, 1, l, m, n)
		if k := min(n, len(want)); !slices.EqualFunc(events, want[:k], alikeEvents) {
			t.Fatalf("of %v is told %s, want %s", c.Filter(), show(events), show(want))
		}
		want = want[len(events):]
		if len(events) > 0 && string(c.Token()) != string(events[len(events)-1].Token) {
			t.Fatalf("it stands behind %q", c.Token())
		}
		if len(events) < n || len(want) == 0 && ended {
			break
		}
	}
	if c.Ended() != ended || !ended && c.Pos() <= len(l) {
		t.Fatalf("behind all it stands at %d of %d; it has ended: %v, want %v", c.Pos(), len(l), c.Ended(), ended)
	}
	if events, no := c.Next(1, l, m, 1); len(events) != 0 || ended != (no == api.ErrEnded) || !ended && no != api.OK {
		t.Fatalf("behind all is told %s, %d", show(events), no)
	}
}

// resumes asks for cursors behind each of the events of a log: these tell just those that followed.
func resumes(t *testing.T, f api.Filter, l []api.Entry, m *image.Images, most func() int, events []api.Event) {
	t.Helper()
	for i, v := range events {
		c, no := cursor.After(f, v.Token, 1, 0, l)
		d, start := cursor.StartAfter(f, v.Token, 1, 0, l)
		if start != api.OK {
			t.Fatalf("StartAfter of %q: %d", v.Token, start)
		}
		if v.Kind == api.EventInvalid {
			// Behind an end nothing follows, but a stream may begin there.
			noCursor(t, "After of an end", c, no, api.ErrEnded)
			drained(t, d, l, m, most, stream(t, f, v.Index+1, l, m))
			continue
		}
		if no != api.OK {
			t.Fatalf("After of %q: %d", v.Token, no)
		}
		drained(t, c, l, m, most, events[i+1:])
		drained(t, d, l, m, most, events[i+1:])
	}
}

// always answers a function that says n.
func always(n int) func() int { return func() int { return n } }

// logs shows all logs of up to so many entries out of few, of terms that grow.
func logs(most int, show func(l []api.Entry)) {
	few := []api.Entry{noop, create("c"), insert("c", item(number(1))), update("c", number(1), set("a", null)), dropAll("c"), rename("c", "d"), rename("d", "c"), dropAll("d"), {Kind: api.EntryDrop, Coll: "c", To: "d"}}
	var grow func(l []api.Entry)
	grow = func(l []api.Entry) {
		show(l)
		if len(l) == most {
			return
		}
		for i, e := range few {
			grow(append(slices.Clip(l), by(e, 1+len(l)/2+i%2*len(l), 0, 0)))
		}
	}
	grow(nil)
}

// filters are some that may be: of one collection or all, of paths, of kinds that leave out what ends a stream.
func filters() []api.Filter {
	return []api.Filter{
		all, ofC, {Coll: "d"}, {Coll: "c", Path: []string{"a"}}, {Coll: "c", Kinds: kinds(api.EntryInsert, api.EntryUpdate)}, {Coll: "c", Kinds: kinds(api.EntryDrop)}, {Kinds: kinds(api.EntryDrop, api.EntryRename)}, {Path: []string{"b"}},
	}
}

func TestSmallStreams(t *testing.T) {
	found := 0
	logs(3, func(l []api.Entry) {
		for _, f := range filters() {
			for i := 1; i <= len(l)+1; i++ {
				events := stream(t, f, i, l, nil)
				for _, most := range []int{1, 2, 3, 64} {
					drained(t, at(t, f, i), l, nil, always(most), events)
				}
				resumes(t, f, l, nil, always(2), events)
				found += len(events)
			}
		}
	})
	if found < 10000 {
		t.Error("just so many events:", found)
	}
}

// Of logs of which the first entries were dropped.

// begun asks for a cursor behind a token in the part of a log from first on, against what is told in the whole log.
func begun(t *testing.T, f api.Filter, l []api.Entry, first int, b []byte) api.Errno {
	t.Helper()
	k, no := token.Decode(b)
	if no != api.OK {
		t.Fatalf("Decode(%q): %d", b, no)
	}
	base := 0
	if first > 1 {
		base = l[first-2].Term
	}
	c, no := cursor.After(f, b, first, base, l[first-1:])
	d, start := cursor.StartAfter(f, b, first, base, l[first-1:])
	switch {
	case k.Index < first-1, k.Kind == api.TokenEntry && k.Index == first-1 && first > 1 && f.Coll != "":
		noCursor(t, "After of what is gone", c, no, api.ErrGone)
		noCursor(t, "StartAfter of what is gone", d, start, api.ErrGone)
		return api.ErrGone
	case k.Kind == api.TokenEnd:
		noCursor(t, "After of an end", c, no, api.ErrEnded)
		drained(t, d, l, nil, always(64), stream(t, f, k.Index+1, l, nil))
		return api.ErrEnded
	}
	whole, no := cursor.After(f, b, 1, 0, l)
	if no != api.OK || c == nil || d == nil {
		t.Fatalf("behind %q: %v, %v, %d", b, c, d, no)
	}
	events := next(t, whole, 1, l, nil, 64)
	drained(t, c, l, nil, always(64), events)
	drained(t, d, l, nil, always(1), events)
	return api.OK
}

func TestSmallStreamsInPartsOfLogs(t *testing.T) {
	found := map[api.Errno]int{}
	logs(3, func(l []api.Entry) {
		for _, f := range filters() {
			for first := 1; first <= len(l)+1; first++ {
				found[begun(t, f, l, first, behind(t, 0, 0))]++
				for i, e := range l {
					found[begun(t, f, l, first, behind(t, i+1, e.Term))]++
					found[begun(t, f, l, first, end(t, i+1, e.Term))]++
				}
			}
		}
	})
	if found[api.OK] < 5000 || found[api.ErrGone] < 5000 || found[api.ErrEnded] < 5000 {
		t.Error("just so many:", found)
	}
}

// Thousands of entries by chance, with the images that a state has.

// history answers entries by chance, that can be done one behind the other, and the state that they make.
func history(t *testing.T, chance *sample.Chance, count, keep int) ([]api.Entry, *snap.State) {
	t.Helper()
	op := sample.Op
	specs := []api.Spec{sample.Ops(op(api.OpInc, "a", number(3))), sample.Ops(op(api.OpSet, "b.c", null), sample.Unset("a")), sample.Replace(one("a", number(5)))}
	x, no := snap.New(keep)
	if no != api.OK {
		t.Fatal("New:", no)
	}
	var l []api.Entry
	for len(l) < count {
		e, no := x.Lower(chance.Ask(specs))
		if no != api.OK {
			e = noop
		}
		if e.Term = 1 + len(l)/40; no != api.OK && chance.Below(8) > 0 {
			continue
		}
		if no := x.Do(e); no != api.OK {
			t.Fatalf("Do(%s): %d", show(e), no)
		}
		l = append(l, e)
	}
	return l, x
}

func TestStreamsByChance(t *testing.T) {
	chance, found := sample.Chance(21), map[string]int{}
	for range 30 {
		l, x := history(t, &chance, 200, chance.Below(65))
		m := x.Images()
		most := func() int { return 1 + chance.Below(1+chance.Below(64)) }
		for _, f := range filters() {
			i := 1 + chance.Below(200)
			events := stream(t, f, i, l, m)
			drained(t, at(t, f, i), l, m, most, events)
			resumes(t, f, l, m, most, events[chance.Below(len(events)+1)/2:])
			for _, v := range events {
				found[fmt.Sprint(v.Kind, " ", v.Had, " ", v.Has)]++
			}
		}
	}
	for _, what := range []string{"2 1 2", "2 3 2", "3 2 2", "3 3 3", "4 2 1", "4 3 1", "5 1 1", "6 1 1", "7 1 1", "8 1 1"} {
		if found[what] < 10 {
			t.Errorf("just so many of %s: %d", what, found[what])
		}
	}
}

// A log that grows, and loses its first entries, while cursors are asked.

// poll asks a cursor for a batch of a part of what is done till now, and folds its events into what stands ahead of them.
func poll(t *testing.T, c *cursor.Cursor, p part, m *image.Images, most int, d *coll.DB) {
	t.Helper()
	before := c.Fork()
	for _, v := range next(t, c, p.first, p.l, m, most) {
		if no := event.Fold(d, v); no != api.OK {
			t.Fatalf("Fold(%s): %d", show(v), no)
		}
		// Event by event it is the same.
		one := next(t, before, p.first, p.l, m, 1)
		if len(one) != 1 || !alikeEvents(one[0], v) {
			t.Fatalf("one by one is told %s, want %s", show(one), show(v))
		}
	}
}

func TestFoldedStreamsMakeWhatTheLogMakes(t *testing.T) {
	chance := sample.Chance(4)
	for range 20 {
		l, _ := history(t, &chance, 150, 0)
		c, d := at(t, all, 1), coll.New()
		x, no := snap.New(chance.Below(65))
		if no != api.OK {
			t.Fatal("New:", no)
		}
		done := 0
		for c.Pos() <= len(l) {
			for range chance.Below(6) {
				if done < len(l) {
					x.Do(l[done])
					done++
				}
			}
			first := 1 + chance.Below(c.Pos())
			p := partOf(first, 0, l[first-1:done]...)
			poll(t, c, p, x.Images(), 1+chance.Below(8), d)
			if chance.Below(4) == 0 && len(c.Token()) > 0 {
				// It goes on from its token, as on another node.
				c, no = cursor.After(all, c.Token(), 1, 0, l[:done])
				if no != api.OK {
					t.Fatal("After:", no)
				}
			}
		}
		made, no := apply.Fold(l)
		if no != api.OK || string(made.Code()) != string(d.Code()) {
			t.Errorf("folded is %q, %d, want %q", show(d.Code()), no, show(made.Code()))
		}
	}
}
