package apply_test

import (
	"fmt"
	"maps"
	"math"
	"slices"
	"testing"

	"tributary/api"
	"tributary/apply"
	"tributary/coll"
	"tributary/entry"
	"tributary/sample"
)

// does asks whether an entry is done, by all that the database then has.
func does(t *testing.T, d *coll.DB, e api.Entry, do func(d *coll.DB) api.Errno) {
	t.Helper()
	other := d.Fork()
	want(t, "what is meant by "+show(e), do(other), api.OK)
	if no := apply.Do(d, e); no != api.OK || string(d.Code()) != string(other.Code()) {
		t.Errorf("Do(%s): %d, makes %q, want %q", show(e), no, show(d.Code()), show(other.Code()))
	}
}

// doesNot asks whether an entry is refused, and the database stays as it is.
func doesNot(t *testing.T, d *coll.DB, e api.Entry, wanted api.Errno) {
	t.Helper()
	code := string(d.Code())
	if no := apply.Do(d, e); no != wanted || string(d.Code()) != code {
		t.Errorf("Do(%s): %d, want %d; the database is the same: %v", show(e), no, wanted, string(d.Code()) == code)
	}
}

// P15.2: Do.

func TestDo(t *testing.T) {
	ok := func(*coll.DB) api.Errno { return api.OK }
	replaced := func(v api.Value) func(d *coll.DB) api.Errno {
		return func(d *coll.DB) api.Errno { return d.Replace("c", v) }
	}
	for _, c := range []struct {
		e  api.Entry
		do func(d *coll.DB) api.Errno
	}{
		{sample.Noop(), ok}, {by(sample.Noop(), 1<<40, 0, 0), ok},
		{sample.Insert("c", item(number(2))), func(d *coll.DB) api.Errno { return d.Insert("c", item(number(2))) }},
		{sample.Insert("empty", item(deep(6), deep(6))), func(d *coll.DB) api.Errno { return d.Insert("empty", item(deep(6), deep(6))) }},
		{sample.Update("c", number(1), set("a", number(7)), set("b.c", null)), replaced(doc([]string{"_id", "a", "b"}, number(1), number(7), one("c", null)))},
		{sample.Update("c", number(1), drop("a")), replaced(item(number(1)))},
		{sample.Update("c", number(1)), ok},
		{sample.Update("c", number(1), drop("x"), cut("a", 0)), ok},
		{sample.Update("c", array(null), cut("l", 1)), replaced(doc([]string{"l", "_id"}, array(null), array(null)))},
		{sample.Update("c", array(null), set("l.2", null), set("l.3", text("x"))), replaced(doc([]string{"l", "_id"}, array(null, number(1), null, text("x")), array(null)))},
		{sample.Update("c", array(null), drop("l.1")), replaced(doc([]string{"l", "_id"}, array(null, null), array(null)))},
		{sample.Update("c", number(1), set("a", deep(6))), replaced(item(number(1), deep(6)))},
		{sample.Update("c", number(1), set("b", text(letters(4079)))), replaced(doc([]string{"_id", "a", "b"}, number(1), number(5), text(letters(4079))))},
		// What is too large on the way is not, when all is done.
		{sample.Update("c", number(1), set("b", text(letters(4078))), set("c", array(null)), drop("a")), replaced(doc([]string{"_id", "b", "c"}, number(1), text(letters(4078)), array(null)))},
		{sample.Delete("c", number(1)), func(d *coll.DB) api.Errno { return d.Delete("c", number(1)) }},
		{sample.Create("new"), func(d *coll.DB) api.Errno { return d.Create("new") }},
		{sample.DropAll("c"), func(d *coll.DB) api.Errno { return d.Drop("c") }},
		{sample.RenameAll("c", "new"), func(d *coll.DB) api.Errno { return d.Rename("c", "new") }},
	} {
		does(t, base(t), c.e, c.do)
		if c.e.Kind != api.EntryNoop {
			does(t, base(t), by(c.e, 1<<40, 255, 1<<40), c.do)
			does(t, base(t), by(c.e, 1, 0, 7), c.do)
		}
	}
}

func TestDoRefuses(t *testing.T) {
	d := base(t)
	for _, c := range []struct {
		e  api.Entry
		no api.Errno
	}{
		{sample.Insert("x", item(number(2))), api.ErrColl}, {sample.Insert("x", item(number(1))), api.ErrColl}, {sample.Insert("c", item(number(1))), api.ErrTwice}, {sample.Insert("c", item(number(1), number(5))), api.ErrTwice},
		{sample.Update("x", number(1), set("a", null)), api.ErrColl}, {sample.Update("c", number(2), set("a", null)), api.ErrNone}, {sample.Update("c", deep(7)), api.ErrNone}, {sample.Update("empty", null), api.ErrNone},
		{sample.Update("c", number(1), set("a.b", null)), api.ErrPath}, {sample.Update("c", number(1), set("b", null), drop("c"), set("a.b.c", null)), api.ErrPath}, {sample.Update("c", array(null), set("l.3", null)), api.ErrPath}, {sample.Update("c", array(null), set("l.x", null)), api.ErrPath}, {sample.Update("c", array(null), set("l.3", null), set("l.2", null)), api.ErrPath},
		{sample.Update("c", number(1), set("a", deep(7))), api.ErrValue}, {sample.Update("c", number(1), set("b.c.d.e.f.g.h.i", null)), api.ErrValue}, {sample.Update("c", number(1), set("b", text(letters(4080)))), api.ErrValue}, {sample.Update("c", number(1), set("b", text(letters(3000))), set("c", text(letters(3000)))), api.ErrValue},
		{sample.Delete("x", number(1)), api.ErrColl}, {sample.Delete("c", number(2)), api.ErrNone}, {sample.Delete("empty", null), api.ErrNone},
		{sample.Create("c"), api.ErrTwice}, {sample.DropAll("x"), api.ErrColl},
		{sample.RenameAll("x", "new"), api.ErrColl}, {sample.RenameAll("x", "c"), api.ErrColl}, {sample.RenameAll("c", "d"), api.ErrTwice},
	} {
		doesNot(t, d, c.e, c.no)
		doesNot(t, d, by(c.e, 1<<40, 255, 1<<40), c.no)
	}
	d = full(t)
	doesNot(t, d, sample.Insert("c0", item(number(256))), api.ErrFull)
	doesNot(t, d, sample.Create("new"), api.ErrFull)
	does(t, d, sample.Update("c0", number(0), set("a", null)), func(d *coll.DB) api.Errno { return d.Replace("c0", item(number(0), null)) })
}

// wrong are entries that may not be; but for that, most would be done in a database of base.
func wrong() []api.Entry {
	l := []api.Entry{
		{}, {Kind: 8}, {Kind: -1}, {Kind: math.MaxInt}, {Kind: api.EntryNoop + 1<<32}, {Kind: 8, Coll: "c"}, by(sample.Noop(), 0, 1, 0), by(sample.Noop(), 0, 0, 1), {Kind: api.EntryNoop, Coll: "c"},
		sample.Insert("c", one("a", null)), sample.Insert("c", null), sample.Insert("", item(number(2))), sample.Insert("c", item(deep(7))), {Kind: api.EntryInsert, Coll: "c", Id: number(3), Doc: item(number(2))}, {Kind: api.EntryInsert, Coll: "c", Doc: item(number(2))},
		sample.Update("c", number(1), drop("_id")), sample.Update("c", number(1), set("_id.a", null)), sample.Update("c", number(1), set("a", null), drop("a")), sample.Update("c", number(1), api.Delta{}), sample.Update("c", api.Value{}, drop("a")), sample.Update("c", number(1), cut("a", 1000)), sample.Update("$", number(1)), sample.Update("c", number(1), slices.Repeat([]api.Delta{drop("a")}, 65)...),
		{Kind: api.EntryUpdate, Coll: "c", Id: number(1), Doc: item(number(1))}, {Kind: api.EntryUpdate, Coll: "c", To: "d", Id: number(1)},
		sample.Delete("c", api.Value{}), sample.Delete("", number(1)), sample.Delete("c", deep(8)), {Kind: api.EntryDelete, Coll: "c", Id: number(1), Doc: item(number(1))},
		sample.Create(""), sample.Create("c$"), sample.Create(letters(33)), {Kind: api.EntryCreate, Coll: "new", To: "other"}, {Kind: api.EntryCreate, Coll: "new", Id: number(1)},
		sample.DropAll(""), {Kind: api.EntryDrop, Coll: "c", To: "d"}, sample.RenameAll("c", "c"), sample.RenameAll("c", ""), sample.RenameAll("", "new"), sample.RenameAll("c", "$"), {Kind: api.EntryRename, Coll: "c", To: "new", Deltas: []api.Delta{drop("a")}},
	}
	for _, e := range []api.Entry{sample.Insert("c", item(number(2))), sample.Update("c", number(1), drop("a")), sample.Delete("c", number(1)), sample.Create("new"), sample.DropAll("c"), sample.RenameAll("c", "new")} {
		l = append(l, by(e, -1, 0, 0), by(e, 1<<40+1, 0, 0), by(e, 0, -1, 0), by(e, 0, 256, 0), by(e, 0, 0, -1), by(e, 0, 0, 1<<40+1))
	}
	return l
}

func TestDoOfWhatMayNotBe(t *testing.T) {
	d := base(t)
	for _, e := range wrong() {
		if entry.May(e) {
			t.Fatalf("%s may be", show(e))
		}
		doesNot(t, d, e, api.ErrArg)
		want(t, "Do in no database", apply.Do(nil, e), api.ErrClosed)
	}
	for _, e := range []api.Entry{sample.Noop(), sample.Create("c"), sample.Insert("c", item(null)), sample.Update("c", null), sample.RenameAll("c", "d")} {
		want(t, "Do in no database", apply.Do(nil, e), api.ErrClosed)
	}
}

// P15.2: Fold.

func TestFold(t *testing.T) {
	l := []api.Entry{
		by(sample.Noop(), 1, 0, 0), by(sample.Create("c"), 1, 1, 1), by(sample.Insert("c", item(number(1))), 1, 1, 2), by(sample.Insert("c", item(number(2))), 1, 2, 1),
		by(sample.Update("c", number(1), set("a", null)), 2, 1, 3), by(sample.Noop(), 2, 0, 0), by(sample.Create("d"), 2, 0, 0), by(sample.Delete("c", number(2)), 2, 1, 4), by(sample.RenameAll("c", "e"), 2, 1, 5), by(sample.DropAll("d"), 3, 1, 6), by(sample.Create("c"), 3, 1, 7),
	}
	d := coll.New()
	for n := range len(l) + 1 {
		if n > 0 {
			want(t, "Do", apply.Do(d, l[n-1]), api.OK)
		}
		got, e := apply.Fold(l[:n])
		if e != api.OK || string(got.Code()) != string(d.Code()) {
			t.Errorf("Fold of %d: %q, %d, want %q", n, got.Code(), e, d.Code())
		}
	}
	if names := d.Names(); !slices.Equal(names, []string{"c", "e"}) || d.Len("c") != 0 || d.Len("e") != 1 {
		t.Errorf("the fold has %q", names)
	}
	finds(t, d, "e", item(number(1), null))
	// Each fold makes a database of its own.
	one, _ := apply.Fold(l[:2])
	two, _ := apply.Fold(l[:2])
	one.Drop("c")
	if two.Len("c") != 0 || len(two.Names()) != 1 || len(one.Names()) != 0 {
		t.Error("two folds are one database")
	}
}

func TestFoldRefuses(t *testing.T) {
	good := []api.Entry{sample.Create("c"), sample.Insert("c", item(number(1), number(5)))}
	for _, c := range []struct {
		l  []api.Entry
		no api.Errno
	}{
		{[]api.Entry{sample.DropAll("c")}, api.ErrColl},
		{[]api.Entry{{}}, api.ErrArg},
		{append(slices.Clone(good), sample.Create("c")), api.ErrTwice},
		{append(slices.Clone(good), sample.Create("c"), api.Entry{}), api.ErrTwice},
		{append(slices.Clone(good), api.Entry{}, sample.Create("c")), api.ErrArg},
		{append(slices.Clone(good), sample.Delete("c", null), sample.Create("d")), api.ErrNone},
		{append(slices.Clone(good), sample.Update("c", number(1), set("a.b", null)), sample.Create("d")), api.ErrPath},
		{append(slices.Clone(good), sample.Update("c", number(1), set("a", deep(7)))), api.ErrValue},
		{append(slices.Clone(good), by(sample.Noop(), -1, 0, 0)), api.ErrArg},
	} {
		if d, no := apply.Fold(c.l); d != nil || no != c.no {
			t.Errorf("Fold(%s) = %v, %d, want %d", show(c.l), d, no, c.no)
		}
	}
	for _, e := range wrong() {
		if d, no := apply.Fold(append(slices.Clone(good), e)); d != nil || no != api.ErrArg {
			t.Errorf("Fold with %s: %d", show(e), no)
		}
	}
}

// P15.3: Before.

func TestBefore(t *testing.T) {
	d := base(t)
	for _, v := range stored() {
		id := v.Items[slices.Index(v.Names, "_id")]
		for _, e := range []api.Entry{sample.Insert("c", item(id)), sample.Update("c", id, drop("a")), sample.Delete("c", id), by(sample.Delete("c", id), 3, 4, 5), sample.Update("c", id), sample.Update("c", id, set("a.b.c", null))} {
			if got, is := apply.Before(d, e); !is || !alike(got, v) {
				t.Errorf("Before(%s) = %s, %v, want %s", show(e), show(got), is, show(v))
			}
			if got, is := apply.Before(nil, e); is || !sample.None(got) {
				t.Errorf("in no database, Before(%s) = %s, %v", show(e), show(got), is)
			}
		}
		for _, kind := range []int{api.EntryNoop, api.EntryCreate, api.EntryDrop, api.EntryRename, 0, 8, -1, api.EntryInsert + 1<<32} {
			if got, is := apply.Before(d, api.Entry{Kind: kind, Coll: "c", Id: id, Doc: v}); is || !sample.None(got) {
				t.Errorf("Before of the kind %d: %s, %v", kind, show(got), is)
			}
		}
		for _, name := range []string{"x", "", "empty", "$"} {
			if got, is := apply.Before(d, sample.Delete(name, id)); is || !sample.None(got) {
				t.Errorf("Before in %s: %s, %v", name, show(got), is)
			}
		}
	}
	for _, id := range []api.Value{{}, {Kind: 8}, number(2), bytes("t"), array(), array(null, null), deep(8), sample.Deep(30000)} {
		for _, e := range []api.Entry{sample.Insert("c", item(id)), sample.Update("c", id), sample.Delete("c", id)} {
			if got, is := apply.Before(d, e); is || !sample.None(got) {
				t.Errorf("Before(%s) = %s, %v", show(e), show(got), is)
			}
		}
	}
	if got, is := apply.Before(d, sample.Update("d", number(1))); !is || !alike(got, item(number(1), text("d"))) {
		t.Errorf("Before in d: %s, %v", show(got), is)
	}
}

// Memory.

func TestDoAndBeforeKeepNothing(t *testing.T) {
	for _, was := range []api.Entry{
		sample.Insert("c", item(array(number(2)), array(array(null)))), sample.Update("c", array(null), set("a.b", array(null, one("c", array()))), set("l.2", array(null))), sample.Delete("c", array(null)),
		sample.Update("c", array(null), set("a", null), set("l.7", null)), sample.Insert("c", item(array(null))),
	} {
		d, e := base(t), sample.RoomyEntry(was)
		if v, is := apply.Before(d, e); is {
			code := string(d.Code())
			sample.Spoil(v)
			if string(d.Code()) != code {
				t.Errorf("what is ahead of %s is the database's memory", show(was))
			}
		}
		apply.Do(d, e)
		code := string(d.Code())
		if !sample.UntouchedEntry(e, was) {
			t.Errorf("%s changes, as it is done", show(was))
		}
		sample.SpoilEntry(e)
		if string(d.Code()) != code {
			t.Errorf("what %s made changes with it", show(was))
		}
	}
	l := []api.Entry{sample.Create("c"), sample.RoomyEntry(sample.Insert("c", item(array(null), array(null)))), sample.RoomyEntry(sample.Update("c", array(null), set("b", array(null)))), sample.Noop()}[:3:4]
	was := slices.Clone(l)
	d, _ := apply.Fold(l)
	code := string(d.Code())
	if !slices.EqualFunc(l, was, alikeEntries) || !alikeEntries(l[:4][3], sample.Noop()) {
		t.Error("Fold changes what it is given")
	}
	for _, e := range l {
		sample.SpoilEntry(e)
	}
	if string(d.Code()) != code {
		t.Error("a fold changes with its entries")
	}
}

// All of it, by requests that chance makes, always the same ones.

// plainly tells of each collection its documents, by the texts of their ids.
func plainly(d *coll.DB) map[string]map[string]string {
	p := map[string]map[string]string{}
	for _, name := range d.Names() {
		p[name] = map[string]string{}
		for v := range d.All(name) {
			p[name][fmt.Sprint(v.Items[slices.Index(v.Names, "_id")])] = fmt.Sprint(v)
		}
	}
	return p
}

// meant does to p what the entry of a request is meant to do; made is the document that is behind it, if it has one.
func meant(p map[string]map[string]string, e api.Entry, made api.Value) {
	switch e.Kind {
	case api.EntryInsert, api.EntryUpdate:
		p[e.Coll][fmt.Sprint(e.Id)] = fmt.Sprint(made)
	case api.EntryDelete:
		delete(p[e.Coll], fmt.Sprint(e.Id))
	case api.EntryCreate:
		p[e.Coll] = map[string]string{}
	case api.EntryDrop:
		delete(p, e.Coll)
	case api.EntryRename:
		p[e.To] = p[e.Coll]
		delete(p, e.Coll)
	}
}

func TestRequestsByChance(t *testing.T) {
	chance, all, found := sample.Chance(8), specs(), map[string]int{}
	var history []api.Entry
	d := coll.New()
	for i := range 20000 {
		a := chance.Ask(all)
		e, no := lower(t, d, a)
		found[fmt.Sprint(a.Kind, " ", no)]++
		if no != api.OK {
			if !alikeEntries(e, untold) {
				t.Fatalf("Lower(%s) = %s, %d", show(a), show(e), no)
			}
			continue
		}
		p := plainly(d)
		if old, is := apply.Before(d, e); is != (e.Kind == api.EntryUpdate || e.Kind == api.EntryDelete) || is && fmt.Sprint(old) != p[e.Coll][fmt.Sprint(e.Id)] {
			t.Fatalf("ahead of %s there is %s, %v", show(e), show(old), is)
		}
		if no := apply.Do(d, e); no != api.OK || !entry.May(e) || e.Session != a.Session || e.Number != a.Number || e.Term != 0 {
			t.Fatalf("%s, the entry of %s: %d", show(e), show(a), no)
		}
		made, _ := d.Find(e.Coll, e.Id)
		if meant(p, e, made); !maps.EqualFunc(plainly(d), p, maps.Equal) {
			t.Fatalf("%s makes %s, want %s", show(e), show(plainly(d)), show(p))
		}
		e.Term = 1 + i
		history = append(history, e)
		if i%1000 == 0 {
			if again, no := apply.Fold(history); no != api.OK || string(again.Code()) != string(d.Code()) {
				t.Fatalf("the fold of %d entries: %d", len(history), no)
			}
		}
	}
	for _, what := range []string{"1 0", "1 5", "1 20", "1 140", "2 0", "2 4", "2 140", "2 50", "2 40", "3 0", "3 20", "3 140", "3 50", "3 40", "4 0", "4 4", "4 140", "5 0", "5 5", "5 140", "6 0", "6 140", "7 0", "7 5", "7 140"} {
		if found[what] < 10 {
			t.Errorf("just so many of %s: %d", what, found[what])
		}
	}
	if len(history) < 3000 {
		t.Error("just so many:", len(history))
	}
}
