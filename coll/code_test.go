package coll_test

import (
	"slices"
	"strings"
	"testing"

	"tributary/api"
	"tributary/codec"
	"tributary/coll"
	"tributary/sample"
	"tributary/varint"
)

// P14.3: Code, Read, Fork; P14.4: what was coded is read.

// coded are the codes of databases, byte by byte, and how they are made.
func coded(t *testing.T) map[string]*coll.DB {
	both := fill(t, "b a", item(number(1)), item(null, text("t")))
	want(t, "Delete", both.Delete("a", number(1)), api.OK)
	full := coll.New()
	code := "\x10"
	for i := range api.MaxColls {
		name := string(rune('a' + i))
		want(t, "Create", full.Create(name), api.OK)
		code += "\x01" + name + "\x00"
	}
	return map[string]*coll.DB{
		"\x00":                             coll.New(),
		"\x01\x01c\x00":                    fill(t, "c"),
		"\x01\x02\xff.\x00":                fill(t, "\xff."),
		"\x01\x01c\x01\x07\x01\x03_id\x01": fill(t, "c", item(null)),
		"\x03\x01B\x00\x01a\x00\x02aa\x00": fill(t, "a aa B"),
		"\x01\x01c\x02\x07\x01\x03_id\x03\x02\x07\x01\x03_id\x03\x04":                                                     fill(t, "c", item(number(2)), item(number(1))),
		"\x02\x01a\x01\x07\x02\x03_id\x01\x01a\x04\x01t\x01b\x02\x07\x02\x03_id\x01\x01a\x04\x01t\x07\x01\x03_id\x03\x02": both,
		"\x01\x20" + letters(32) + "\x00": fill(t, letters(32)),
		code:                              full,
	}
}

// read tells what Read answers of b, how many bytes it left, and whether the source is good.
func read(b string) (*coll.DB, int, bool) {
	s := varint.From([]byte(b))
	got := coll.Read(s)
	return got, s.Left(), !s.Bad()
}

// refuse asks for b, with which no code begins.
func refuse(t *testing.T, b string) {
	t.Helper()
	if got, left, ok := read(b); ok || left != 0 || got != nil {
		t.Errorf("Read of %q = %v, %d, %v", show(b), got, left, ok)
	}
}

func TestCodeAndRead(t *testing.T) {
	for b, d := range coded(t) {
		if got := d.Code(); string(got) != b {
			t.Errorf("Code() = %q, want %q", got, b)
		}
		for _, tail := range []string{"", "\x00", "\x01\x02\x03"} {
			got, left, ok := read(b + tail)
			if !ok || left != len(tail) || string(got.Code()) != b {
				t.Errorf("Read of %q and %q: %d, %v", b, tail, left, ok)
				continue
			}
			if !slices.Equal(got.Names(), d.Names()) {
				t.Errorf("%q is read as collections %q", b, got.Names())
			}
			for _, name := range got.Names() {
				has(t, got, name, all(d, name)...)
			}
		}
		for n := range b {
			refuse(t, b[:n])
		}
	}
}

// code answers the code of a document.
func code(v api.Value) string {
	b, _ := codec.Encode(v)
	return string(b)
}

// manyDocs answers how many and the codes of n documents of rising ids.
func manyDocs(n int) string {
	b, _ := varint.Count(n)
	codes := string(b)
	for i := range n {
		codes += code(item(number(i)))
	}
	return codes
}

func TestReadOfWhatIsNoCode(t *testing.T) {
	seventeen := "\x11"
	for i := range 17 {
		seventeen += "\x01" + string(rune('a'+i)) + "\x00"
	}
	of := func(n string, docs ...api.Value) string {
		b := "\x01\x01c" + n
		for _, v := range docs {
			b += code(v)
		}
		return b
	}
	long := "\x21" + letters(33)
	for _, b := range []string{
		"", "\x80", "\x80\x00", "\x81\x00\x01c\x00", seventeen, "\x11", "\xff\xff\xff\xff\xff\xff\xff\xff\xff\x01",
		"\x01\x00\x00", "\x01\x01$\x00", "\x01\x01\x00\x00", "\x01\x02$c\x00", "\x01\x02c$\x00", "\x01" + long + "\x00", "\x01\x81\x00c\x00", "\x01\x01c", "\x01\x01c\x80\x00",
		"\x02\x01c\x00\x01c\x00", "\x02\x01c\x00\x01b\x00", "\x02\x02ca\x00\x01c\x00", "\x03\x01a\x00\x01c\x00\x01b\x00", "\x02\x01a\x00\x01A\x00", "\x02\x01a\x00\x00\x00",
		of("\x01"), of("\x01", null), of("\x01", doc(nil)), of("\x01", one("id", null)), of("\x01", array(item(null))), of("\x01") + "\x00", of("\x01") + "\x07\x01\x03_id\x00", of("\x01") + "\x07\x02\x03_id\x01\x03_id\x01", of("\x02", item(null)),
		of("\x02", item(null), item(null)), of("\x02", item(number(2)), item(number(1))), of("\x02", item(number(1)), item(number(1), null)), of("\x03", item(number(1)), item(number(3)), item(number(2))), of("\x02", item(text("b")), item(text("a"))), of("\x02", item(text("a")), item(number(5))), of("\x02", item(array(null)), item(array())),
		"\x01\x01c\x01\x07\x01\x03_id" + strings.Repeat("\x06\x01", 7) + "\x01", "\x01\x01c\x01\x07\x02\x03_id\x01\x01t\x04" + string(varint.Text(letters(4085))), "\x01\x01c\x81\x02", "\x01\x01c" + manyDocs(257), "\x01\x01c\xff\xff\xff\xff\xff\xff\xff\xff\xff\x01", "\x01\x01c\x01\x07\x80\x20" + strings.Repeat("\x01a\x06\x80\x20", 3000),
		"\x02\x01a\x01" + code(item(null)) + "\x01b\x01" + code(null), "\x02\x01a\x01" + code(null) + "\x01b\x00",
	} {
		refuse(t, b)
	}
	if got := coll.Read(nil); got != nil {
		t.Error("of no source is read a database")
	}
	s := varint.From([]byte("\x00"))
	s.Spoil()
	if got := coll.Read(s); got != nil || !s.Bad() {
		t.Error("of a bad source is read a database")
	}
}

func TestReadOfMany(t *testing.T) {
	b := "\x10"
	for i := range 16 {
		b += "\x01" + string(rune('a'+i)) + manyDocs(256)
	}
	d, left, ok := read(b + "z")
	if !ok || left != 1 || string(d.Code()) != b {
		t.Fatal("a database of as many documents as there may be is not read")
	}
	want(t, "Create", d.Create("z"), api.ErrFull)
	want(t, "Insert", d.Insert("c", item(number(256))), api.ErrFull)
	want(t, "Delete", d.Delete("c", number(9)), api.OK)
	want(t, "Insert", d.Insert("c", item(number(256))), api.OK)
	want(t, "Drop", d.Drop("c"), api.OK)
	want(t, "Create", d.Create("z"), api.OK)
	large := "\x01\x01c" + "\x02" + code(item(number(1), text(letters(4083)))) + code(item(text(letters(4087))))
	if d, left, ok := read(large); !ok || left != 0 || string(d.Code()) != large {
		t.Error("a database of large documents is not read")
	}
}

// anyBytes asks for any bytes, and tells whether a code is ahead in them: then what they say has that code, and may be made.
func anyBytes(t *testing.T, b string) bool {
	t.Helper()
	d, left, ok := read(b)
	if !ok {
		if d != nil || left != 0 {
			t.Fatalf("Read(%q) = %v, %d", b, d, left)
		}
		return false
	}
	if string(d.Code()) != b[:len(b)-left] {
		t.Fatalf("%q is read as what has the code %q", b, d.Code())
	}
	other := coll.New()
	for _, name := range d.Names() {
		want(t, "Create", other.Create(name), api.OK)
		for v := range d.All(name) {
			want(t, "Insert", other.Insert(name, v), api.OK)
		}
	}
	if string(other.Code()) != string(d.Code()) {
		t.Fatalf("what %q says can not be made", b)
	}
	return true
}

func TestWhatIsReadHasThatCode(t *testing.T) {
	found := map[bool]int{}
	ask := func(b string) { found[anyBytes(t, b)]++ }
	for _, head := range []string{"", "\x02\x01a\x00", "\x01\x01c\x01\x07\x01\x03_id", "\x01\x01c\x01\x07\x02\x03_id\x01", "\x01\x01c\x02\x07\x01\x03_id\x03\x02\x07\x01\x03_id", "\x02\x01a\x00\x02b"} {
		sample.Behind(head, "\x00\x01\x02\x03\x04\x06\x07abA$\x80", 4, ask)
	}
	if found[true] < 1000 {
		t.Error("just so many codes:", found)
	}
}

func TestAnyBytes(t *testing.T) {
	chance, found := sample.Chance(5), map[bool]int{}
	ask := func(b string) { found[anyBytes(t, b)]++ }
	for b := range coded(t) {
		sample.Changed(b, ask)
	}
	for range 20000 {
		ask(chance.Bytes(24))
	}
	if found[true] < 2000 || found[false] < 2000 {
		t.Error("just so many codes:", found)
	}
}

func TestReadKeepsNothing(t *testing.T) {
	b := []byte("\x01\x01c\x02" + code(item(array(null), array(text("t")))) + code(item(doc(nil))) + "\x00")
	was := slices.Clone(b)
	s := varint.From(b)
	d := coll.Read(s)
	clear(b)
	other := coll.Read(s)
	has(t, d, "c", item(array(null), array(text("t"))), item(doc(nil)))
	if string(other.Code()) != "\x00" || s.Done() != api.OK {
		t.Error("the second database is not read")
	}
	b = slices.Clone(was)
	coll.Read(varint.From(b))
	if !slices.Equal(b, was) {
		t.Error("Read changes what it is given")
	}
}

// Fork.

func TestFork(t *testing.T) {
	// change does to a database all that changes one.
	change := func(d *coll.DB, name string) {
		want(t, "Insert", d.Insert("b", item(number(5), text(name))), api.OK)
		want(t, "Insert", d.Insert("b", item(number(0), text(name))), api.OK)
		want(t, "Replace", d.Replace("b", item(number(2), text(name))), api.OK)
		want(t, "Delete", d.Delete("b", number(3)), api.OK)
		want(t, "Drop", d.Drop("c"), api.OK)
		want(t, "Rename", d.Rename("d", name), api.OK)
		want(t, "Create", d.Create("d"), api.OK)
		want(t, "Insert", d.Insert("d", item(text(name))), api.OK)
		want(t, "Insert", d.Insert(name, item(text(name))), api.OK)
	}
	// check asks for what change has made.
	check := func(d *coll.DB, name string) {
		t.Helper()
		if got := d.Names(); !slices.Equal(got, []string{"b", "d", name}) {
			t.Errorf("%s has collections %q", name, got)
		}
		has(t, d, "b", item(number(0), text(name)), item(number(1)), item(number(2), text(name)), item(number(4)), item(number(5), text(name)))
		has(t, d, "d", item(text(name)))
		has(t, d, name, item(number(1)), item(number(2)), item(number(3)), item(number(4)), item(text(name)))
	}
	l := []api.Value{item(number(1)), item(number(2)), item(number(3)), item(number(4))}
	d := fill(t, "b c d", l...)
	code := string(d.Code())
	x, y := d.Fork(), d.Fork()
	z := x.Fork()
	change(x, "x")
	change(d, "yours")
	if string(y.Code()) != code || string(z.Code()) != code {
		t.Error("a fork changes with the other ones")
	}
	change(z, "z")
	check(x, "x")
	check(d, "yours")
	check(z, "z")
	for _, name := range []string{"b", "c", "d"} {
		has(t, y, name, l...)
	}
	if got := coll.New().Fork(); got == nil || string(got.Code()) != "\x00" || got.Create("c") != api.OK {
		t.Error("a fork of an empty database is none")
	}
}
