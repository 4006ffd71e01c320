package entry_test

import (
	"fmt"
	"math"
	"slices"
	"strings"
	"testing"

	"tributary/api"
	"tributary/entry"
	"tributary/sample"
)

// The makers of values, changes and entries, by short names.
var (
	null, number, text, bytes = sample.Null(), sample.Number, sample.Text, sample.Bytes
	array, doc, one, deep     = sample.Array, sample.Doc, sample.One, sample.Deep
	set, drop, cut            = sample.Set, sample.Drop, sample.Cut
	insert, update, remove    = sample.Insert, sample.Update, sample.Delete
	create, dropAll, rename   = sample.Create, sample.DropAll, sample.RenameAll
	noop, by, alike           = sample.Noop(), sample.By, sample.AlikeEntries
)

func letters(n int) string { return strings.Repeat("x", n) }

// show is how a failed test tells of what may be long.
func show(x any) string { return fmt.Sprintf("%.300s", fmt.Sprint(x)) }

// none is what is answered where there is no entry.
var none = api.Entry{}

// many are n changes at n paths.
func many(n int) []api.Delta {
	var l []api.Delta
	for i := range n {
		l = append(l, set(fmt.Sprint("n", i), number(i)))
	}
	return l
}

// kinds are one entry of each kind.
func kinds() []api.Entry {
	return []api.Entry{
		noop, insert("c", one("_id", number(1))), update("c", number(1), set("a", null)), remove("c", number(1)),
		create("c"), dropAll("c"), rename("c", "d"),
	}
}

// goodIds are ids that a document may have.
func goodIds() []api.Value {
	return []api.Value{null, number(0), number(math.MinInt), text(""), text("a"), {Kind: api.KindBool, Int: 1}, bytes("\x00\xff"), array(), array(null, text("t")), doc(nil), one("_id", null), deep(6)}
}

// goodNames and badNames are names of collections, and what is none.
var (
	goodNames = []string{"c", "_", ".", "a.b", "_id", " ", "\x01", "\xff", "\u00e9", "\xff\xfe\xfd", "a\nb", letters(31), letters(32), strings.Repeat("\u00e9", 16), strings.Repeat("\xff", 32)}
	badNames  = []string{"", "$", "$c", "c$", "a$b", "\x00", "c\x00", "\x00c", "a\x00b", "\xff$", "\xff\x00", letters(33), strings.Repeat("\u00e9", 17), letters(31) + "$", letters(31) + "\x00", letters(32) + "$", letters(100000)}
)

// good are entries that may be.
func good() []api.Entry {
	l := []api.Entry{
		by(noop, 3, 0, 0), by(noop, api.MaxTerm, 0, 0),
		insert("c", doc([]string{"a", "_id", "b"}, null, text("i"), one("_id", number(2)))),
		insert("c", doc([]string{"_id", "t"}, null, text(letters(4084)))),
		insert("c", doc([]string{"a", "_id"}, deep(6), deep(6))),
		insert("c", one("_id", text(letters(4087)))),
		update("c", null), update("c", null, many(64)...), update("c", null, drop("a"), cut("b.c", 0), set("b.d", deep(7)), set("_idd", null), set("a_id", null), set("d._id", null), drop("e._id.f")),
		update("c", text(letters(4093)), set("t", text(letters(4093)))),
		update("c", deep(7), cut("a", 999)),
		remove("c", text(letters(4093))), remove("c", deep(7)),
		{Kind: api.EntryNoop, Id: api.Value{Items: []api.Value{}, Names: []string{}}, Doc: api.Value{Items: []api.Value{}}, Deltas: []api.Delta{}},
		{Kind: api.EntryUpdate, Coll: "c", Id: null, Deltas: []api.Delta{}},
	}
	for _, e := range kinds() {
		l = append(l, e)
		if e.Kind != api.EntryNoop {
			l = append(l, by(e, 0, 0, 1), by(e, 1, 1, 0), by(e, 0, 255, 1<<40), by(e, 1<<40, 255, 1<<40))
		}
	}
	for _, s := range goodNames {
		l = append(l, create(s), dropAll(s), rename(s, "to"), rename("from", s), remove(s, null), insert(s, one("_id", null)), update(s, null, drop("a")))
	}
	for _, id := range goodIds() {
		l = append(l, insert("c", doc([]string{"a", "_id"}, null, id)), update("c", id, drop("a")), remove("c", id))
	}
	return l
}

// wrong are entries that may not be.
func wrong() []api.Entry {
	l := []api.Entry{
		{}, {Kind: 8}, {Kind: -1}, {Kind: 0, Coll: "c"}, {Kind: 8, Coll: "c"}, {Kind: math.MaxInt}, {Kind: math.MinInt}, {Kind: 257}, {Kind: 1 + 1<<32},
		by(noop, 0, 1, 0), by(noop, 0, 0, 1), by(noop, 1, 255, 1<<40),
		rename("c", "c"), rename(letters(32), letters(32)), {Kind: api.EntryRename, Coll: "c"}, {Kind: api.EntryRename, To: "c"},
		{Kind: api.EntryInsert, Coll: "c", Doc: one("_id", null)}, {Kind: api.EntryInsert, Coll: "c", Id: null},
		{Kind: api.EntryInsert, Coll: "c", Id: number(1), Doc: one("_id", number(2))},
		{Kind: api.EntryInsert, Coll: "c", Id: number(1), Doc: one("_id", text("1"))},
		{Kind: api.EntryInsert, Coll: "c", Id: text("a"), Doc: one("_id", bytes("a"))},
		{Kind: api.EntryInsert, Coll: "c", Id: doc([]string{"a", "b"}, null, null), Doc: one("_id", doc([]string{"b", "a"}, null, null))},
		{Kind: api.EntryInsert, Coll: "c", Id: null, Doc: one("id", null)},
		{Kind: api.EntryInsert, Coll: "c", Id: null, Doc: one("a", one("_id", null))},
		{Kind: api.EntryInsert, Coll: "c", Id: null, Doc: doc(nil)},
		{Kind: api.EntryInsert, Coll: "c", Id: null, Doc: null},
		{Kind: api.EntryInsert, Coll: "c", Id: null, Doc: array(null)},
		{Kind: api.EntryInsert, Coll: "c", Id: null, Doc: api.Value{Kind: api.KindArray, Items: []api.Value{null}, Names: []string{"_id"}}},
		{Kind: api.EntryInsert, Coll: "c", Id: null, Doc: api.Value{Kind: api.KindDoc, Names: []string{"_id"}}},
		{Kind: api.EntryInsert, Coll: "c", Id: api.Value{}, Doc: one("_id", api.Value{})},
		{Kind: api.EntryInsert, Coll: "c", Id: api.Value{}, Doc: doc(nil)},
		insert("c", doc([]string{"_id", "_id"}, null, null)), insert("c", doc([]string{"_id", "a"}, null, api.Value{})), insert("c", doc([]string{"_id", "$"}, null, null)),
		insert("c", one("_id", deep(7))), insert("c", doc([]string{"_id", "a"}, null, deep(7))),
		insert("c", one("_id", text(letters(4088)))), insert("c", doc([]string{"_id", "t"}, null, text(letters(4085)))),
		update("c", null, many(65)...), update("c", null, api.Delta{}), update("c", null, set("a", deep(8))), update("c", null, cut("a", 1000)), update("c", null, cut("a", -1)), update("c", null, set("a.", null)),
		update("c", null, set("a", null), drop("a")), update("c", null, set("a", null), set("b", null), drop("a.b")), update("c", null, set("a.b.c", null), set("b", null), drop("a.b")),
		update("c", null, drop("_id")), update("c", null, set("_id", null)), update("c", null, cut("_id", 1)), update("c", null, set("_id.a", null)), update("c", null, set("_id.a.b", null)), update("c", null, append(many(63), drop("_id"))...),
		update("c", null, set("a", null), set("_id.b", null)),
	}
	for _, e := range kinds() {
		l = append(l, by(e, -1, 0, 0), by(e, 1<<40+1, 0, 0), by(e, math.MaxInt, 0, 0), by(e, math.MinInt, 0, 0))
		l = append(l, by(e, 0, -1, 0), by(e, 0, 256, 0), by(e, 0, math.MaxInt, 0), by(e, 0, 0, -1), by(e, 0, 0, 1<<40+1), by(e, 0, 0, math.MinInt))
	}
	for _, s := range badNames {
		l = append(l, create(s), dropAll(s), rename(s, "to"), rename("from", s), remove(s, null), insert(s, one("_id", null)), update(s, null, drop("a")))
	}
	for _, id := range []api.Value{{}, {Kind: 8}, {Int: 1}, {Kind: api.KindBool, Int: 2}, deep(8), text(letters(4094)), array(api.Value{}), doc([]string{"b", "b"}, null, null), one("$", null)} {
		l = append(l, insert("c", one("_id", id)), update("c", id, drop("a")), update("c", id), remove("c", id))
	}
	return append(l, crowded()...)
}

// crowded are entries that have a field which their kind does not have, besides those that it has.
func crowded() []api.Entry {
	var l []api.Entry
	with := func(e api.Entry, do func(e *api.Entry)) {
		do(&e)
		l = append(l, e)
	}
	for _, e := range kinds() {
		if e.Coll == "" {
			with(e, func(e *api.Entry) { e.Coll = "c" })
		}
		if e.To == "" {
			with(e, func(e *api.Entry) { e.To = "to" })
		}
		for _, v := range []api.Value{null, number(0), {Int: 1}, {Text: "a"}, {Items: []api.Value{{}}}, {Names: []string{""}}, {Kind: -1}, one("_id", number(1))} {
			if sample.None(e.Id) {
				with(e, func(e *api.Entry) { e.Id = v })
			}
			if sample.None(e.Doc) {
				with(e, func(e *api.Entry) { e.Doc = v })
			}
		}
		if len(e.Deltas) == 0 {
			with(e, func(e *api.Entry) { e.Deltas = []api.Delta{drop("a")} })
			with(e, func(e *api.Entry) { e.Deltas = []api.Delta{{}} })
		}
	}
	// An update may have more changes: it is the one kind that has them.
	return slices.DeleteFunc(l, func(e api.Entry) bool { return e.Kind == api.EntryUpdate && sample.None(e.Doc) && e.To == "" })
}

// P13.1: Name, May, and what Encode refuses.

func TestName(t *testing.T) {
	for _, s := range goodNames {
		if !entry.Name(s) {
			t.Errorf("%q is a name", s)
		}
	}
	for _, s := range badNames {
		if entry.Name(s) {
			t.Errorf("%q is no name", show(s))
		}
	}
	for c := range 256 {
		b, want := string([]byte{byte(c)}), c != '$' && c != 0
		for _, s := range []string{b, "a" + b, b + "a", "\xff" + b, b + letters(31), letters(31) + b, letters(15) + b + letters(16)} {
			if entry.Name(s) != want {
				t.Errorf("Name(%q) = %v", s, !want)
			}
		}
	}
}

func TestMay(t *testing.T) {
	for _, e := range good() {
		if b, errno := entry.Encode(e); !entry.May(e) || errno != api.OK || len(b) == 0 {
			t.Errorf("%s may be: %v, %d", show(e), entry.May(e), errno)
		}
	}
	for _, e := range wrong() {
		if b, errno := entry.Encode(e); entry.May(e) || errno != api.ErrArg || len(b) != 0 {
			t.Errorf("%s may not be: %v, %d", show(e), entry.May(e), errno)
		}
	}
	if len(crowded()) < 60 {
		t.Error("just so many:", len(crowded()))
	}
}

func TestMayOfDeepIds(t *testing.T) {
	for _, id := range []api.Value{sample.Levels(null, 30000), sample.Deep(30000)} {
		for _, e := range []api.Entry{insert("c", one("_id", id)), update("c", id), remove("c", id), update("c", null, set("a", id))} {
			if entry.May(e) || entry.Same(e, e) {
				t.Error("what is too deep may not be")
			}
		}
	}
}

// P13.2: Same and Clone.

func TestSame(t *testing.T) {
	l := append(good(), by(create("c"), 1, 2, 3), by(create("c"), 2, 2, 3), by(create("c"), 1, 3, 3), by(create("c"), 1, 2, 4), create("d"), dropAll("d"),
		rename("c", "e"), rename("d", "c"), remove("c", number(2)), remove("d", number(1)), update("c", number(2), set("a", null)), update("c", number(1), set("b", null)), update("c", number(1), set("a", number(0))), update("c", number(1), drop("a")), update("c", number(1), cut("a", 0)), update("c", number(1), cut("a", 1)),
		update("c", number(1), drop("a"), drop("b")), update("c", number(1), drop("b"), drop("a")), insert("c", one("_id", number(2))), insert("c", doc([]string{"_id", "a"}, number(1), null)), insert("c", doc([]string{"a", "_id"}, null, number(1))))
	for _, a := range l {
		for _, b := range l {
			if want := alike(a, b); entry.Same(a, entry.Clone(b)) != want {
				t.Errorf("Same(%s, %s) = %v", show(a), show(b), !want)
			}
		}
	}
	for _, a := range wrong() {
		for _, b := range append(kinds(), a, none) {
			if entry.Same(a, b) || entry.Same(b, a) {
				t.Errorf("%s, which may not be, is the same as %s", show(a), show(b))
			}
		}
	}
}

func TestClone(t *testing.T) {
	for _, was := range slices.Concat(good(), wrong(), []api.Entry{insert("c", doc([]string{"_id", "a"}, array(null), array(one("b", null)))), update("c", array(null), set("a.b", array(null)), set("c", null))}) {
		if got := entry.Clone(was); !alike(got, was) {
			t.Errorf("Clone(%s) = %s", show(was), show(got))
		}
		e := sample.RoomyEntry(was)
		got := entry.Clone(e)
		sample.SpoilEntry(got)
		if !sample.UntouchedEntry(e, was) {
			t.Errorf("a clone of %s is the same memory", show(was))
		}
		got = entry.Clone(e)
		sample.SpoilEntry(e)
		if !alike(got, was) {
			t.Errorf("a clone of %s changes with it", show(was))
		}
	}
}

func TestNoTwoListsOfACloneAreOne(t *testing.T) {
	shared := array(null)
	e := insert("c", doc([]string{"_id", "a"}, shared, shared))
	e.Deltas = []api.Delta{set("b", shared), set("b", shared)}
	e.Deltas[1].Path = e.Deltas[0].Path
	got := entry.Clone(e)
	for i, l := range [][]api.Value{got.Id.Items, got.Doc.Items[0].Items, got.Doc.Items[1].Items, got.Deltas[0].Value.Items, got.Deltas[1].Value.Items} {
		if !sample.Alike(l[0], null) {
			t.Error("two lists are one")
		}
		l[0] = number(i)
	}
	got.Deltas[0].Path[0] = "x"
	if got.Deltas[1].Path[0] != "b" || !sample.Alike(shared, array(null)) {
		t.Error("two lists are one")
	}
}

// What is handed in is not changed and not kept.

func TestNothingIsChanged(t *testing.T) {
	for _, was := range append(kinds(), insert("c", doc([]string{"_id", "a"}, array(null), array(one("b", null)))), update("c", array(null), set("a.b", array(null)), set("c", null)), remove("c", api.Value{Items: []api.Value{null}}), update("c", null, set("a", null), set("a", null))) {
		e := sample.RoomyEntry(was)
		entry.May(e)
		entry.Same(e, was)
		entry.Same(was, e)
		entry.Encode(e)
		if !sample.UntouchedEntry(e, was) {
			t.Errorf("what was handed in is changed: %s", show(was))
		}
	}
}
