package coll_test

import (
	"fmt"
	"slices"
	"strings"
	"testing"

	"tributary/api"
	"tributary/coll"
	"tributary/sample"
)

// The makers of values, by short names.
var (
	null, number, text, bytes = sample.Null(), sample.Number, sample.Text, sample.Bytes
	array, doc, one, deep     = sample.Array, sample.Doc, sample.One, sample.Deep
	item                      = sample.Item
	alike, none               = sample.Alike, sample.None
)

func letters(n int) string { return strings.Repeat("x", n) }

// show is how a failed test tells of what may be long.
func show(x any) string { return fmt.Sprintf("%.300s", fmt.Sprint(x)) }

// badNames are what is no collection's name.
var badNames = []string{"", "$", "c$", "\x00", "c\x00d", letters(33)}

// rising are ids, each ahead of the next one.
func rising() []api.Value {
	return []api.Value{
		null, {Kind: api.KindBool}, {Kind: api.KindBool, Int: 1}, number(-300), number(-1), number(0), number(7), text(""), text("a"), text("a\x00"), text("b"),
		bytes(""), bytes("a"), array(), array(null), array(number(1)), array(number(1), null), doc(nil), one("a", null), one("a", number(1)), doc([]string{"a", "b"}, number(1), null), one("b", null),
	}
}

// fill answers a database that has collections of those names, in each the documents l.
func fill(t *testing.T, names string, l ...api.Value) *coll.DB {
	t.Helper()
	d := coll.New()
	for _, name := range strings.Fields(names) {
		want(t, "Create "+name, d.Create(name), api.OK)
		for _, v := range l {
			want(t, "Insert into "+name, d.Insert(name, v), api.OK)
		}
	}
	return d
}

// want asks for an error's number.
func want(t *testing.T, what string, e, want api.Errno) {
	t.Helper()
	if e != want {
		t.Errorf("%.200s: %d, want %d", what, e, want)
	}
}

// all answers the documents of a collection.
func all(d *coll.DB, name string) []api.Value { return slices.Collect(d.All(name)) }

// has asks whether a collection has just the documents l, in that order, by all calls that tell.
func has(t *testing.T, d *coll.DB, name string, l ...api.Value) {
	t.Helper()
	if got := all(d, name); !slices.EqualFunc(got, l, alike) || d.Len(name) != len(l) {
		t.Errorf("%s has %d: %s, want %s", name, d.Len(name), show(got), show(l))
	}
	for _, v := range l {
		id := v.Items[slices.Index(v.Names, "_id")]
		if got, e := d.Find(name, id); e != api.OK || !alike(got, v) {
			t.Errorf("Find(%s, %s) = %s, %d", name, show(id), show(got), e)
		}
	}
}

// same does what is refused, and asks whether the database stays as it is.
func same(t *testing.T, d *coll.DB, what string, do func() api.Errno, wanted api.Errno) {
	t.Helper()
	code := string(d.Code())
	want(t, what, do(), wanted)
	if string(d.Code()) != code {
		t.Errorf("%.200s changes the database", what)
	}
}

// P14.1: Create, Drop, Rename, Names, Len.

func TestCreate(t *testing.T) {
	d := coll.New()
	if len(d.Names()) != 0 || d.Len("c") != 0 || len(all(d, "c")) != 0 {
		t.Error("a new database is empty")
	}
	var names []string
	for _, name := range []string{"c", "b", "\xff", letters(32), "a.b", "_id", "\x01", "B", "bb"} {
		want(t, "Create "+name, d.Create(name), api.OK)
		same(t, d, "Create once more "+name, func() api.Errno { return d.Create(name) }, api.ErrTwice)
		names = append(names, name)
		slices.Sort(names)
		if !slices.Equal(d.Names(), names) || d.Len(name) != 0 {
			t.Errorf("Names() = %q, want %q", d.Names(), names)
		}
	}
	for _, name := range badNames {
		same(t, d, "Create "+name, func() api.Errno { return d.Create(name) }, api.ErrColl)
	}
}

func TestCreateOfMany(t *testing.T) {
	d := coll.New()
	for i := range api.MaxColls {
		want(t, "Create", d.Create(fmt.Sprint("c", i)), api.OK)
	}
	for name, e := range map[string]api.Errno{"c16": api.ErrFull, "x": api.ErrFull, "c15": api.ErrTwice, "": api.ErrColl, "$": api.ErrColl} {
		same(t, d, "Create "+name, func() api.Errno { return d.Create(name) }, e)
	}
	want(t, "Rename", d.Rename("c3", "x"), api.OK)
	same(t, d, "Create", func() api.Errno { return d.Create("c3") }, api.ErrFull)
	want(t, "Drop", d.Drop("c5"), api.OK)
	want(t, "Create", d.Create("c3"), api.OK)
	if got := d.Names(); len(got) != api.MaxColls || !slices.IsSorted(got) || slices.Contains(got, "c5") {
		t.Errorf("Names() = %q", got)
	}
}

func TestDrop(t *testing.T) {
	d := fill(t, "b c d", item(number(1)), item(number(2)))
	want(t, "Drop", d.Drop("c"), api.OK)
	if got := d.Names(); !slices.Equal(got, []string{"b", "d"}) || d.Len("c") != 0 || len(all(d, "c")) != 0 {
		t.Errorf("Names() = %q", got)
	}
	for _, name := range append([]string{"c", "x"}, badNames...) {
		same(t, d, "Drop "+name, func() api.Errno { return d.Drop(name) }, api.ErrColl)
	}
	if _, e := d.Find("c", number(1)); e != api.ErrColl {
		t.Error("what was dropped is found:", e)
	}
	want(t, "Create", d.Create("c"), api.OK)
	has(t, d, "c")
	has(t, d, "b", item(number(1)), item(number(2)))
}

func TestRename(t *testing.T) {
	d := fill(t, "b c d", item(number(1)), item(number(2)))
	want(t, "Delete", d.Delete("d", number(1)), api.OK)
	for _, c := range []struct {
		from, to string
		e        api.Errno
	}{
		{"x", "y", api.ErrColl}, {"x", "x", api.ErrColl}, {"x", "b", api.ErrColl}, {"x", "$", api.ErrColl}, {"", "y", api.ErrColl}, {"$", "b", api.ErrColl},
		{"b", "", api.ErrColl}, {"b", "$", api.ErrColl}, {"b", letters(33), api.ErrColl}, {"b", "a\x00", api.ErrColl},
		{"b", "c", api.ErrTwice}, {"b", "b", api.ErrTwice}, {"c", "b", api.ErrTwice},
	} {
		same(t, d, "Rename "+c.from+" to "+c.to, func() api.Errno { return d.Rename(c.from, c.to) }, c.e)
	}
	want(t, "Rename", d.Rename("d", "a"), api.OK)
	if got := d.Names(); !slices.Equal(got, []string{"a", "b", "c"}) || d.Len("d") != 0 {
		t.Errorf("Names() = %q", got)
	}
	has(t, d, "a", item(number(2)))
	has(t, d, "b", item(number(1)), item(number(2)))
	want(t, "Insert", d.Insert("d", item(null)), api.ErrColl)
	want(t, "Rename", d.Rename("a", letters(32)), api.OK)
	want(t, "Rename", d.Rename(letters(32), "d"), api.OK)
	has(t, d, "d", item(number(2)))
}

// P14.2: Insert, Replace, Delete, Find, All.

// wrongDocs are what can not stand in a collection.
func wrongDocs() []api.Value {
	return []api.Value{
		{}, null, number(1), text("_id"), array(item(null)), doc(nil), one("id", null), one("a", item(null)), doc([]string{"a", "b"}, null, null),
		item(api.Value{}), item(null, api.Value{}), item(api.Value{Kind: api.KindBool, Int: 2}), doc([]string{"_id", "_id"}, null, null), doc([]string{"_id", "$"}, null, null), doc([]string{"_id"}), doc([]string{"_id", "a"}, null),
		{Kind: api.KindArray, Items: []api.Value{null}, Names: []string{"_id"}}, {Kind: 8, Items: []api.Value{null}, Names: []string{"_id"}},
		item(deep(7)), item(null, deep(7)), item(text(letters(4088))), item(null, text(letters(4085))), sample.One("_id", sample.Deep(30000)),
	}
}

func TestInsert(t *testing.T) {
	d := fill(t, "c other")
	for _, v := range wrongDocs() {
		same(t, d, "Insert "+show(v), func() api.Errno { return d.Insert("c", v) }, api.ErrValue)
		same(t, d, "Insert nowhere "+show(v), func() api.Errno { return d.Insert("x", v) }, api.ErrColl)
	}
	for _, v := range []api.Value{item(deep(6)), item(null, deep(6)), item(text(letters(4087))), item(number(0), text(letters(4083))), doc([]string{"b", "_id"}, number(1), number(2))} {
		want(t, "Insert "+show(v), d.Insert("c", v), api.OK)
		same(t, d, "Insert once more "+show(v), func() api.Errno { return d.Insert("c", v) }, api.ErrTwice)
		same(t, d, "Insert nowhere "+show(v), func() api.Errno { return d.Insert("x", v) }, api.ErrColl)
	}
	same(t, d, "Insert of an id that is there", func() api.Errno { return d.Insert("c", item(number(2), text("other"))) }, api.ErrTwice)
	want(t, "Insert elsewhere", d.Insert("other", item(number(2))), api.OK)
	has(t, d, "other", item(number(2)))
	has(t, d, "c", item(null, deep(6)), item(number(0), text(letters(4083))), doc([]string{"b", "_id"}, number(1), number(2)), item(text(letters(4087))), item(deep(6)))
}

func TestInsertOfMany(t *testing.T) {
	d := fill(t, "c other")
	for i := range api.MaxDocs {
		// 77 and 256 have no common factor, so that all come, out of order.
		want(t, "Insert", d.Insert("c", item(number(i*77%api.MaxDocs))), api.OK)
	}
	same(t, d, "Insert one more", func() api.Errno { return d.Insert("c", item(number(256))) }, api.ErrFull)
	same(t, d, "Insert one that is there", func() api.Errno { return d.Insert("c", item(number(0))) }, api.ErrTwice)
	same(t, d, "Insert what may not be", func() api.Errno { return d.Insert("c", null) }, api.ErrValue)
	want(t, "Insert elsewhere", d.Insert("other", item(number(256))), api.OK)
	want(t, "Replace", d.Replace("c", item(number(9), text("new"))), api.OK)
	want(t, "Delete", d.Delete("c", number(100)), api.OK)
	want(t, "Insert", d.Insert("c", item(number(256))), api.OK)
	same(t, d, "Insert one more", func() api.Errno { return d.Insert("c", item(number(100))) }, api.ErrFull)
	var l []api.Value
	for i := range api.MaxDocs + 1 {
		switch i {
		case 9:
			l = append(l, item(number(9), text("new")))
		case 100:
		default:
			l = append(l, item(number(i)))
		}
	}
	has(t, d, "c", l...)
}

func TestReplace(t *testing.T) {
	d := fill(t, "c", item(number(1)), item(number(3), text("old")), item(text("1")))
	for _, v := range wrongDocs() {
		same(t, d, "Replace "+show(v), func() api.Errno { return d.Replace("c", v) }, api.ErrValue)
		same(t, d, "Replace nowhere "+show(v), func() api.Errno { return d.Replace("x", v) }, api.ErrColl)
	}
	for _, id := range []api.Value{null, number(0), number(2), number(4), text(""), bytes("1"), array(number(1)), one("_id", number(1))} {
		same(t, d, "Replace "+show(id), func() api.Errno { return d.Replace("c", item(id)) }, api.ErrNone)
	}
	same(t, d, "Replace nowhere", func() api.Errno { return d.Replace("", item(number(1))) }, api.ErrColl)
	want(t, "Replace", d.Replace("c", item(number(3), text("new"))), api.OK)
	want(t, "Replace", d.Replace("c", doc([]string{"z", "_id"}, null, number(1))), api.OK)
	has(t, d, "c", doc([]string{"z", "_id"}, null, number(1)), item(number(3), text("new")), item(text("1")))
	want(t, "Replace", d.Replace("c", item(text("1"), number(5))), api.OK)
	has(t, d, "c", doc([]string{"z", "_id"}, null, number(1)), item(number(3), text("new")), item(text("1"), number(5)))
}

// notThere are ids that no document has, some of which may not be.
func notThere() []api.Value {
	return []api.Value{{}, {Kind: 8}, {Kind: api.KindNull, Int: 1}, {Kind: api.KindBool, Int: 2}, doc([]string{"b", "b"}, null, null), null, number(2), text("3"), bytes("a"), array(number(3)), one("_id", number(3)), deep(8), deep(30), sample.Deep(30000), text(letters(5000))}
}

func TestDeleteAndFind(t *testing.T) {
	d := fill(t, "c", item(number(1)), item(number(3), array(null)), item(text("a")))
	for _, id := range append(notThere(), number(1)) {
		same(t, d, "Delete nowhere "+show(id), func() api.Errno { return d.Delete("x", id) }, api.ErrColl)
		if got, e := d.Find("x", id); e != api.ErrColl || !none(got) {
			t.Errorf("Find(x, %s) = %s, %d", show(id), show(got), e)
		}
	}
	for _, id := range notThere() {
		same(t, d, "Delete "+show(id), func() api.Errno { return d.Delete("c", id) }, api.ErrNone)
		if got, e := d.Find("c", id); e != api.ErrNone || !none(got) {
			t.Errorf("Find(c, %s) = %s, %d", show(id), show(got), e)
		}
	}
	has(t, d, "c", item(number(1)), item(number(3), array(null)), item(text("a")))
	want(t, "Delete", d.Delete("c", number(3)), api.OK)
	has(t, d, "c", item(number(1)), item(text("a")))
	same(t, d, "Delete once more", func() api.Errno { return d.Delete("c", number(3)) }, api.ErrNone)
	if got, e := d.Find("c", number(3)); e != api.ErrNone || !none(got) {
		t.Error("what was deleted is found:", show(got), e)
	}
	want(t, "Delete", d.Delete("c", number(1)), api.OK)
	want(t, "Delete", d.Delete("c", text("a")), api.OK)
	has(t, d, "c")
	want(t, "Insert", d.Insert("c", item(number(3))), api.OK)
	has(t, d, "c", item(number(3)))
}

func TestAllIsARow(t *testing.T) {
	d := fill(t, "c", item(number(2)), item(number(1)), item(number(3)))
	l := d.All("c")
	for n := range 4 {
		var got []api.Value
		for v := range l {
			if len(got) == n {
				break
			}
			got = append(got, v)
		}
		if want := []api.Value{item(number(1)), item(number(2)), item(number(3))}[:n]; !slices.EqualFunc(got, want, alike) {
			t.Errorf("All tells %s, stopped behind %d", show(got), n)
		}
	}
	nowhere := d.All("x")
	want(t, "Insert", d.Insert("c", item(number(0))), api.OK)
	want(t, "Rename", d.Rename("c", "x"), api.OK)
	want(t, "Create", d.Create("c"), api.OK)
	if got := slices.Collect(l); len(got) != 0 {
		t.Errorf("All tells what was there: %s", show(got))
	}
	if got := slices.Collect(nowhere); len(got) != 4 || !alike(got[0], item(number(0))) {
		t.Errorf("All does not tell what is there: %s", show(got))
	}
	want(t, "Drop", d.Drop("x"), api.OK)
	for _, name := range []string{"x", "", "$"} {
		for v := range d.All(name) {
			t.Errorf("All of %q tells %s", name, show(v))
		}
	}
}

// P14.4: documents are told by rising ids, whatever the order in which they came.

func TestDocumentsRise(t *testing.T) {
	var l []api.Value
	for i, id := range rising() {
		l = append(l, item(id, number(i)))
	}
	chance := sample.Chance(3)
	for range 60 {
		shuffled := slices.Clone(l)
		for i := range shuffled {
			k := i + chance.Below(len(l)-i)
			shuffled[i], shuffled[k] = shuffled[k], shuffled[i]
		}
		has(t, fill(t, "c", shuffled...), "c", l...)
	}
	has(t, fill(t, "c", item(number(2)), item(number(1))), "c", item(number(1)), item(number(2)))
}

// Of a nil DB, and of one that no call made.

func TestNoDatabase(t *testing.T) {
	for name, d := range map[string]*coll.DB{"nil": nil, "of no call": {}} {
		for what, e := range map[string]api.Errno{
			"Create": d.Create("c"), "Create of no name": d.Create(""), "Drop": d.Drop("c"), "Rename": d.Rename("c", "d"), "Rename to no name": d.Rename("c", ""),
			"Insert": d.Insert("c", item(null)), "Insert of no document": d.Insert("c", null), "Replace": d.Replace("c", item(null)), "Replace of no document": d.Replace("", null), "Delete": d.Delete("c", null), "Delete of no id": d.Delete("c", api.Value{}),
		} {
			want(t, what+" of a DB that is "+name, e, api.ErrClosed)
		}
		v, e := d.Find("c", null)
		want(t, "Find of a DB that is "+name, e, api.ErrClosed)
		l, e := d.Select("c", api.Query{Most: 1})
		want(t, "Select of a DB that is "+name, e, api.ErrClosed)
		_, e = d.Select("c", api.Query{})
		want(t, "Select of no query, of a DB that is "+name, e, api.ErrClosed)
		n, e := d.Count("c", api.Cond{})
		want(t, "Count of a DB that is "+name, e, api.ErrClosed)
		_, e = d.Count("c", api.Cond{Kind: -1})
		want(t, "Count of no condition, of a DB that is "+name, e, api.ErrClosed)
		if !none(v) || len(l) != 0 || n != 0 || len(d.Names()) != 0 || d.Len("c") != 0 || len(all(d, "c")) != 0 || len(d.Code()) != 0 || d.Fork() != nil {
			t.Errorf("a DB that is %s tells something", name)
		}
	}
}

// What is handed in is not changed and not kept; what is answered is new memory.

func TestNothingIsChangedAndNothingIsKept(t *testing.T) {
	was, id := doc([]string{"_id", "a"}, array(null), one("b", array(number(1)))), array(null)
	other := doc([]string{"a", "_id"}, array(text("x")), array(null))
	d := fill(t, "c")
	v := sample.Roomy(was)
	want(t, "Insert", d.Insert("c", v), api.OK)
	want(t, "Insert", d.Insert("c", v), api.ErrTwice)
	if !sample.Untouched(v, was) {
		t.Error("Insert changes what it is given")
	}
	sample.Spoil(v)
	has(t, d, "c", was)
	v = sample.Roomy(other)
	want(t, "Replace", d.Replace("c", v), api.OK)
	if !sample.Untouched(v, other) {
		t.Error("Replace changes what it is given")
	}
	sample.Spoil(v)
	has(t, d, "c", other)
	v = sample.Roomy(id)
	d.Find("c", v)
	want(t, "Delete", d.Delete("c", v), api.OK)
	if !sample.Untouched(v, id) {
		t.Error("Find or Delete changes what it is given")
	}
}

func TestAnswersAreNewMemory(t *testing.T) {
	was := doc([]string{"_id", "a"}, array(null), one("b", array(number(1))))
	d := fill(t, "b c", was, item(number(1)))
	one, _ := d.Find("c", array(null))
	sample.Spoil(one)
	for v := range d.All("c") {
		sample.Spoil(v)
	}
	l, _ := d.Select("c", api.Query{Most: 9})
	for i, v := range l {
		sample.Spoil(v)
		l[i] = null
	}
	clear(l[:cap(l)])
	names, code := d.Names(), d.Code()
	clear(names[:cap(names)])
	clear(code[:cap(code)])
	if got := d.Names(); !slices.Equal(got, []string{"b", "c"}) {
		t.Errorf("names that were told are changed: %q", got)
	}
	has(t, d, "c", item(number(1)), was)
	has(t, d, "b", item(number(1)), was)
	first, again := d.Code(), d.Code()
	clear(again)
	if string(first) != string(d.Code()) {
		t.Error("two codes are one")
	}
}
