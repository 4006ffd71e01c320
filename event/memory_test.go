package event_test

import (
	"cmp"
	"slices"
	"testing"
	"unsafe"

	"tributary/api"
	"tributary/event"
	"tributary/sample"
)

// rich are entries whose lists hold lists, and documents that stand ahead of them.
func rich() []row {
	v := item(array(null), array(array(null), one("b", null)))
	return []row{
		{e: insert("c", v), pre: here(v)}, {e: insert("c", v), pre: absent}, {e: remove("c", array(null)), pre: here(v)}, {e: create("c"), pre: here(v)}, {e: rename("c", "d"), pre: expired},
		{e: update("c", array(null), set("b.c", array(null)), cut("a", 1), drop("x")), pre: here(v)}, {e: update("c", array(null)), pre: here(v)}, {e: update("c", array(null), set("b", array(null))), pre: expired},
		// What is refused.
		{e: update("c", array(null), set("_idx", array(null)), set("a.x", array(null))), pre: here(v)}, {e: update("c", array(null), set("b", array(null)), set("b.c", array(null))), pre: here(v)}, {e: insert("c", v), pre: here(none)},
	}
}

func TestOfKeepsNothingAndAnswersNewMemory(t *testing.T) {
	for _, r := range rich() {
		r.e.Term = 1
		wanted, no := event.Of(r.e, 1, r.pre.v, r.pre.how)
		e, pre := sample.RoomyEntry(r.e), sample.Roomy(r.pre.v)
		got, _ := event.Of(e, 1, pre, r.pre.how)
		sample.SpoilEvent(got)
		if !sample.UntouchedEntry(e, r.e) || !sample.Untouched(pre, r.pre.v) {
			t.Errorf("the event of %s is memory that was handed in", show(r.e))
		}
		got, is := event.Of(e, 1, pre, r.pre.how)
		sample.SpoilEntry(e)
		sample.Spoil(pre)
		if is != no || !alikeEvents(got, wanted) {
			t.Errorf("the event of %s changes with it", show(r.e))
		}
	}
}

// span is where a list lies, its spare room too.
type span struct{ from, to uintptr }

// spanOf answers where l lies; nothing, if it has no room.
func spanOf[T any](l []T) []span {
	from := uintptr(unsafe.Pointer(unsafe.SliceData(l)))
	if size := uintptr(cap(l)) * unsafe.Sizeof(*new(T)); size > 0 {
		return []span{{from, from + size}}
	}
	return nil
}

// spansOf answers where the lists of values lie.
func spansOf(values ...api.Value) []span {
	var l []span
	for _, v := range values {
		l = slices.Concat(l, spanOf(v.Items), spanOf(v.Names), spansOf(v.Items...))
	}
	return l
}

// spansOfDeltas answers where the lists of changes lie.
func spansOfDeltas(changes []api.Delta) []span {
	l := spanOf(changes)
	for _, d := range changes {
		l = slices.Concat(l, spanOf(d.Path), spansOf(d.Value))
	}
	return l
}

func TestNoTwoListsOfAnEventAreOne(t *testing.T) {
	shared := array(null, array(number(1)))
	v := item(shared, shared)
	steps := []string{"b", "c"}
	change := update("c", shared, api.Delta{Kind: api.DeltaSet, Path: steps[:1], Value: shared}, api.Delta{Kind: api.DeltaSet, Path: steps[1:], Value: shared}, set("a.2", shared))
	for _, r := range []row{{e: insert("c", v), pre: here(v)}, {e: change, pre: here(v)}, {e: change, pre: expired}, {e: remove("c", shared), pre: here(v)}, {e: update("c", shared), pre: here(v)}} {
		r.e.Term = 1
		x, no := event.Of(r.e, 1, r.pre.v, r.pre.how)
		want(t, "Of", no, api.OK)
		l := slices.Concat(spansOf(x.Id, x.Pre, x.Post), spansOfDeltas(x.Deltas), spanOf(x.Token))
		// Nor is one that was handed in.
		l = slices.Concat(l, spansOf(shared), spanOf(v.Items), spanOf(v.Names), spanOf(r.e.Deltas), spanOf(steps))
		slices.SortFunc(l, func(a, b span) int { return cmp.Compare(a.from, b.from) })
		for i := 1; i < len(l); i++ {
			if l[i].from < l[i-1].to {
				t.Errorf("two lists of the event of %s are one", show(r.e))
			}
		}
		if len(l) < 10 {
			t.Errorf("just so many lists of the event of %s: %d", show(r.e), len(l))
		}
	}
}

func TestTwoEventsShareNothing(t *testing.T) {
	for _, r := range rich() {
		r.e.Term = 1
		one, _ := event.Of(r.e, 1, r.pre.v, r.pre.how)
		two, no := event.Of(r.e, 1, r.pre.v, r.pre.how)
		sample.SpoilEvent(one)
		again, _ := event.Of(r.e, 1, r.pre.v, r.pre.how)
		if !alikeEvents(two, again) {
			t.Errorf("two events of %s are one, %d", show(r.e), no)
		}
	}
	one, _ := event.End(1, 1, "c")
	two, _ := event.End(1, 1, "c")
	sample.SpoilEvent(one)
	again, _ := event.End(1, 1, "c")
	if !alikeEvents(two, again) {
		t.Error("two ends are one")
	}
}

func TestFoldKeepsNothing(t *testing.T) {
	events := []api.Event{inserted("c", item(array(number(2)), array(array(null)))), changed("c", array(null), set("b.c", array(null)), cut("l", 1)), changed("c", array(null), set("a", null), set("l.7", null)), deleted("c", array(null)), inserted("c", item(array(null), array(null)))}
	for _, was := range append(events, crowded(events[0]), crowded(events[1])) {
		d, v := base(t), sample.RoomyEvent(was)
		event.Fold(d, v)
		code := string(d.Code())
		if !sample.UntouchedEvent(v, was) {
			t.Errorf("%s changes, as it is folded", show(was))
		}
		sample.SpoilEvent(v)
		if string(d.Code()) != code {
			t.Errorf("what %s made changes with it", show(was))
		}
	}
}

func TestSameAndTextChangeNothing(t *testing.T) {
	for _, was := range apart() {
		v, w := sample.RoomyEvent(was), sample.RoomyEvent(was)
		event.Same(v, w)
		event.Text(v)
		v.Kind = api.EntryInsert
		event.Text(v)
		v.Kind = was.Kind
		if !sample.UntouchedEvent(v, was) || !sample.UntouchedEvent(w, was) {
			t.Errorf("what was handed in is changed: %s", show(was))
		}
	}
}
