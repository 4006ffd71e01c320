package event_test

import (
	"fmt"
	"math"
	"slices"
	"testing"

	"tributary/api"
	"tributary/apply"
	"tributary/coll"
	"tributary/event"
	"tributary/sample"
)

// P20.2: Fold.

// base answers a database of the collections c, d and empty.
func base(t *testing.T) *coll.DB {
	t.Helper()
	d := coll.New()
	for _, name := range []string{"c", "d", "empty"} {
		want(t, "Create", d.Create(name), api.OK)
	}
	for _, v := range []api.Value{item(null), item(number(1), number(5)), item(text("t"), text("x")), doc([]string{"l", "_id"}, array(null, number(1)), array(null))} {
		want(t, "Insert", d.Insert("c", v), api.OK)
	}
	want(t, "Insert", d.Insert("d", item(number(1), text("d"))), api.OK)
	return d
}

// full answers a database of as many collections as there may be, c0 to c15; c0 has as many documents as there may be, of the ids 0 to 255.
func full(t *testing.T) *coll.DB {
	t.Helper()
	d := coll.New()
	for i := range api.MaxColls {
		want(t, "Create", d.Create(fmt.Sprint("c", i)), api.OK)
	}
	for i := range api.MaxDocs {
		want(t, "Insert", d.Insert("c0", item(number(i))), api.OK)
	}
	return d
}

// folds asks whether an event is folded, by all that the database then has.
func folds(t *testing.T, d *coll.DB, v api.Event, do func(d *coll.DB) api.Errno) {
	t.Helper()
	other := d.Fork()
	want(t, "what is meant by "+show(v), do(other), api.OK)
	if no := event.Fold(d, v); no != api.OK || string(d.Code()) != string(other.Code()) {
		t.Errorf("Fold(%s): %d, makes %q, want %q", show(v), no, show(d.Code()), show(other.Code()))
	}
}

// foldsNot asks whether an event is refused, and the database stays as it is.
func foldsNot(t *testing.T, d *coll.DB, v api.Event, wanted api.Errno) {
	t.Helper()
	code := string(d.Code())
	if no := event.Fold(d, v); no != wanted || string(d.Code()) != code {
		t.Errorf("Fold(%s): %d, want %d; the database is the same: %v", show(v), no, wanted, string(d.Code()) == code)
	}
}

// inserted, changed, deleted, .. are events that have just what is folded.
func inserted(name string, v api.Value) api.Event {
	return api.Event{Kind: api.EntryInsert, Coll: name, Post: v}
}

func changed(name string, id api.Value, l ...api.Delta) api.Event {
	return api.Event{Kind: api.EntryUpdate, Coll: name, Id: id, Deltas: l}
}

func deleted(name string, id api.Value) api.Event {
	return api.Event{Kind: api.EntryDelete, Coll: name, Id: id}
}

func created(name string) api.Event { return api.Event{Kind: api.EntryCreate, Coll: name} }

func dropped(name string) api.Event { return api.Event{Kind: api.EntryDrop, Coll: name} }

func renamed(name, to string) api.Event {
	return api.Event{Kind: api.EntryRename, Coll: name, To: to}
}

// crowded answers v with something in each field that is not folded.
func crowded(v api.Event) api.Event {
	v.Index, v.Term, v.Had, v.Has, v.Pre, v.Token = -1, -2, 9, -9, text("pre"), []byte("token")
	if v.Kind != api.EntryRename {
		v.To = "to"
	}
	if v.Kind != api.EntryInsert {
		v.Post = item(number(1), text("post"))
	}
	if v.Kind != api.EntryUpdate {
		v.Deltas = []api.Delta{{Kind: 9}}
	}
	if v.Kind != api.EntryUpdate && v.Kind != api.EntryDelete {
		v.Id = number(77)
	}
	return v
}

// foldable are events that are folded into base, and what that means there.
func foldable() []struct {
	v  api.Event
	do func(d *coll.DB) api.Errno
} {
	replaced := func(v api.Value) func(d *coll.DB) api.Errno {
		return func(d *coll.DB) api.Errno { return d.Replace("c", v) }
	}
	return []struct {
		v  api.Event
		do func(d *coll.DB) api.Errno
	}{
		{inserted("c", item(number(2))), func(d *coll.DB) api.Errno { return d.Insert("c", item(number(2))) }},
		{inserted("empty", item(deep(6), deep(6))), func(d *coll.DB) api.Errno { return d.Insert("empty", item(deep(6), deep(6))) }},
		{changed("c", number(1), set("a", number(7)), set("b.c", null)), replaced(doc([]string{"_id", "a", "b"}, number(1), number(7), one("c", null)))},
		{changed("c", number(1), drop("a")), replaced(item(number(1)))},
		{changed("c", number(1)), replaced(item(number(1), number(5)))},
		{changed("c", array(null), cut("l", 1)), replaced(doc([]string{"l", "_id"}, array(null), array(null)))},
		{changed("c", number(1), set("b", text(letters(4079)))), replaced(doc([]string{"_id", "a", "b"}, number(1), number(5), text(letters(4079))))},
		// Changes are done in order, whether they are free or not, and may put the document in another one's place.
		{changed("c", number(1), set("a", number(7)), set("a", one("b", null)), set("a.b", text("x")), drop("x.y")), replaced(item(number(1), one("b", text("x"))))},
		{changed("c", number(1), drop("_id"), set("_id", number(1))), replaced(doc([]string{"a", "_id"}, number(5), number(1)))},
		{changed("c", number(1), set("_id", null)), replaced(item(null, number(5)))},
		{deleted("c", number(1)), func(d *coll.DB) api.Errno { return d.Delete("c", number(1)) }},
		{created("new"), func(d *coll.DB) api.Errno { return d.Create("new") }},
		{dropped("c"), func(d *coll.DB) api.Errno { return d.Drop("c") }},
		{renamed("c", "new"), func(d *coll.DB) api.Errno { return d.Rename("c", "new") }},
	}
}

func TestFold(t *testing.T) {
	for _, c := range foldable() {
		folds(t, base(t), c.v, c.do)
		folds(t, base(t), crowded(c.v), c.do)
	}
}

func TestFoldOfAnEnd(t *testing.T) {
	end, e := event.End(5, 2, "c")
	want(t, "End", e, api.OK)
	for _, v := range []api.Event{end, {Kind: 8}, {Kind: 8, Coll: "x"}, crowded(end)} {
		folds(t, base(t), v, func(*coll.DB) api.Errno { return api.OK })
		folds(t, coll.New(), v, func(*coll.DB) api.Errno { return api.OK })
	}
}

// notFoldable are events that base refuses, and why.
func notFoldable() []struct {
	v  api.Event
	no api.Errno
} {
	v := item(number(2))
	return []struct {
		v  api.Event
		no api.Errno
	}{
		{inserted("x", v), api.ErrColl}, {inserted("", v), api.ErrColl}, {inserted("x", none), api.ErrColl}, {inserted("c", item(number(1))), api.ErrTwice},
		{inserted("c", none), api.ErrValue}, {inserted("c", null), api.ErrValue}, {inserted("c", one("a", null)), api.ErrValue}, {inserted("c", item(deep(7))), api.ErrValue}, {inserted("c", item(none)), api.ErrValue}, {inserted("c", api.Value{Kind: 9}), api.ErrValue}, {inserted("c", one("_id", text(letters(4088)))), api.ErrValue},
		{changed("x", number(1), drop("a")), api.ErrColl}, {changed("x", number(1), api.Delta{}), api.ErrColl}, {changed("c", number(2), drop("a")), api.ErrNone}, {changed("c", none), api.ErrNone}, {changed("c", api.Value{Kind: 8}), api.ErrNone}, {changed("c", number(2), api.Delta{}), api.ErrNone},
		{changed("c", number(1), api.Delta{}), api.ErrArg}, {changed("c", number(1), set("a", deep(8))), api.ErrArg}, {changed("c", number(1), cut("a", 1000)), api.ErrArg}, {changed("c", number(1), drop("")), api.ErrArg}, {changed("c", number(1), drop("a"), api.Delta{Kind: 4}), api.ErrArg},
		{changed("c", number(1), slices.Repeat([]api.Delta{drop("a")}, 65)...), api.ErrLong}, {changed("c", number(1), slices.Repeat([]api.Delta{{}}, 65)...), api.ErrLong},
		{changed("c", number(1), set("a.b", null)), api.ErrPath}, {changed("c", number(1), drop("a"), set("_id.x", null)), api.ErrPath}, {changed("c", array(null), set("l.3", null)), api.ErrPath},
		{changed("c", number(1), set("a", deep(7))), api.ErrValue}, {changed("c", number(1), set("b", text(letters(4080)))), api.ErrValue}, {changed("c", number(1), drop("_id")), api.ErrValue}, {changed("c", number(1), set("_id", number(2))), api.ErrNone},
		{deleted("x", number(1)), api.ErrColl}, {deleted("c", number(2)), api.ErrNone}, {deleted("c", none), api.ErrNone}, {deleted("empty", null), api.ErrNone},
		{created("c"), api.ErrTwice}, {created(""), api.ErrColl}, {created("$"), api.ErrColl}, {created(letters(33)), api.ErrColl}, {dropped("x"), api.ErrColl}, {dropped(""), api.ErrColl},
		{renamed("x", "new"), api.ErrColl}, {renamed("c", "d"), api.ErrTwice}, {renamed("c", "c"), api.ErrTwice}, {renamed("c", ""), api.ErrColl}, {renamed("c", "$"), api.ErrColl},
	}
}

func TestFoldRefuses(t *testing.T) {
	for _, c := range notFoldable() {
		foldsNot(t, base(t), c.v, c.no)
		foldsNot(t, base(t), crowded(c.v), c.no)
	}
	d := full(t)
	foldsNot(t, d, inserted("c0", item(number(256))), api.ErrFull)
	foldsNot(t, d, inserted("c0", item(number(255))), api.ErrTwice)
	foldsNot(t, d, created("new"), api.ErrFull)
	folds(t, d, changed("c0", number(0), set("a", null)), func(d *coll.DB) api.Errno { return d.Replace("c0", item(number(0), null)) })
}

// noKinds are kinds that no event has.
var noKinds = []int{0, 1, 9, 10, -1, -2, 64 + 2, 255, 256 + 3, 2 + 1<<32, 8 + 1<<32, math.MaxInt, math.MinInt}

func TestFoldOfNoKind(t *testing.T) {
	for _, kind := range noKinds {
		v := api.Event{Kind: kind}
		foldsNot(t, base(t), v, api.ErrArg)
		for _, c := range foldable() {
			c.v.Kind = kind
			foldsNot(t, base(t), c.v, api.ErrArg)
		}
		want(t, "Fold into nothing", event.Fold(nil, v), api.ErrClosed)
	}
}

func TestFoldIntoNothing(t *testing.T) {
	for _, c := range foldable() {
		want(t, "Fold into nothing", event.Fold(nil, c.v), api.ErrClosed)
	}
	for _, c := range notFoldable() {
		want(t, "Fold into nothing", event.Fold(nil, c.v), api.ErrClosed)
	}
	want(t, "Fold into nothing", event.Fold(nil, api.Event{Kind: api.EventInvalid}), api.ErrClosed)
}

// P20.3: folding the event of an entry is doing the entry.

// agree does an entry in d, and folds its event into twin, and asks whether both say and make the same.
func agree(t *testing.T, d, twin *coll.DB, e api.Entry, index int, ahead known) api.Errno {
	t.Helper()
	v, no := event.Of(e, index, ahead.v, ahead.how)
	want(t, "Of "+show(e), no, api.OK)
	no = apply.Do(d, e)
	want(t, "Fold of "+show(v), event.Fold(twin, v), no)
	if string(d.Code()) != string(twin.Code()) {
		t.Fatalf("doing %s makes %q, folding makes %q", show(e), show(d.Code()), show(twin.Code()))
	}
	if no == api.OK && v.Has == api.ImageHere {
		if post, no := d.Find(v.Coll, v.Id); no != api.OK || !alike(post, v.Post) {
			t.Fatalf("behind %s stands %s, its event says %s", show(e), show(post), show(v.Post))
		}
	}
	return no
}

// aheadOf is what is known of the document ahead of an entry: all of it, or nothing more.
func aheadOf(d *coll.DB, e api.Entry, kept bool) known {
	v, is := apply.Before(d, e)
	switch {
	case !kept:
		return expired
	case is:
		return here(v)
	}
	return absent
}

// specs are updates that requests ask for.
func specs() []api.Spec {
	op := sample.Op
	return []api.Spec{
		sample.Ops(op(api.OpInc, "a", number(3))), sample.Ops(op(api.OpSet, "a", array(null))), sample.Ops(op(api.OpPush, "a", number(1))), sample.Ops(op(api.OpSet, "b.c", null), sample.Unset("a")),
		sample.Ops(sample.Rename("a", "b.d")), sample.Replace(one("a", number(5))), sample.Replace(doc(nil)), {},
	}
}

func TestFoldingIsDoing(t *testing.T) {
	chance, all, found := sample.Chance(3), specs(), map[string]int{}
	d, twin := coll.New(), coll.New()
	index := 0
	var history []api.Entry
	for i := range 20000 {
		e, no := apply.Lower(d, chance.Ask(all))
		switch {
		case no == api.OK:
			index++
			e.Term = 1 + i/1000
			history = append(history, e)
		case len(history) > 0:
			// One that was done already: mostly it is refused now.
			e = history[chance.Below(len(history))]
		default:
			continue
		}
		ahead := aheadOf(d, e, chance.Below(3) > 0)
		// Of a document that has other items by now the changes may be refused, where it is said to be there.
		if _, no := event.Of(e, index, ahead.v, ahead.how); no != api.OK {
			want(t, "Do of what has no event", apply.Do(d.Fork(), e), no)
			ahead = expired
		}
		no = agree(t, d, twin, e, index, ahead)
		found[fmt.Sprint(e.Kind, " ", no)]++
	}
	for _, what := range []string{"2 0", "2 5", "2 140", "3 0", "3 4", "3 140", "4 0", "4 4", "5 0", "5 5", "6 0", "6 140", "7 0", "7 5", "7 140"} {
		if found[what] < 10 {
			t.Errorf("just so many of %s: %d", what, found[what])
		}
	}
	if len(history) < 3000 {
		t.Error("just so many:", len(history))
	}
}

func TestFoldingIsDoingOnWhateverIsThere(t *testing.T) {
	for _, e := range []api.Entry{
		insert("c", item(number(2))), insert("c", item(number(1))), insert("x", item(number(1))), update("c", number(1), set("a", null)), update("c", number(1), set("a.b", null)), update("c", number(1), set("a", deep(7))), update("c", number(2)), update("x", null),
		remove("c", null), remove("c", number(2)), remove("x", null), create("c"), create("new"), dropAll("c"), dropAll("x"), rename("c", "d"), rename("c", "new"), rename("x", "new"),
	} {
		for _, ahead := range []known{absent, expired} {
			agree(t, base(t), base(t), by(e, 1, 1, 1), 1, ahead)
			agree(t, full(t), full(t), by(e, 1, 1, 1), 1, ahead)
		}
	}
}
