package entry_test

import (
	"math"
	"slices"
	"strings"
	"testing"

	"tributary/api"
	"tributary/codec"
	"tributary/entry"
	"tributary/sample"
	"tributary/varint"
)

// P13.1: Encode, Decode, Read; P13.3: what was encoded is decoded, and what was decoded has that code.

// coded are entries and their codes, byte by byte.
func coded() []struct {
	e api.Entry
	b string
} {
	return []struct {
		e api.Entry
		b string
	}{
		{by(noop, 3, 0, 0), "\x03\x01\x00\x00"},
		{noop, "\x00\x01\x00\x00"},
		{by(noop, api.MaxTerm, 0, 0), "\x80\x80\x80\x80\x80\x20\x01\x00\x00"},
		{insert("c", one("_id", null)), "\x00\x02\x00\x00\x01c\x01\x07\x01\x03_id\x01"},
		{by(insert("cd", doc([]string{"a", "_id"}, number(5), text("x"))), 1, 2, 3), "\x01\x02\x02\x03\x02cd\x04\x01x\x07\x02\x01a\x03\x0a\x03_id\x04\x01x"},
		{by(update("c", number(1), set("a.b", null), drop("c"), cut("d.0", 5)), 128, 255, 1<<40), "\x80\x01\x03\xff\x01\x80\x80\x80\x80\x80\x20\x01c\x03\x02\x03\x01\x02\x01a\x01b\x01\x02\x01\x01c\x03\x02\x01d\x010\x05"},
		{update("c", array()), "\x00\x03\x00\x00\x01c\x06\x00\x00"},
		{by(remove("c", text("ab")), 300, 127, 128), "\xac\x02\x04\x7f\x80\x01\x01c\x04\x02ab"},
		{by(create("c"), 7, 1, 1), "\x07\x05\x01\x01\x01c"},
		{by(dropAll("\xff."), 7, 1, 2), "\x07\x06\x01\x02\x02\xff."},
		{by(rename("c", "to"), 7, 1, 3), "\x07\x07\x01\x03\x01c\x02to"},
		{create(letters(32)), "\x00\x05\x00\x00\x20" + letters(32)},
	}
}

func TestEncode(t *testing.T) {
	for _, c := range coded() {
		if b, e := entry.Encode(c.e); e != api.OK || string(b) != c.b {
			t.Errorf("Encode(%s) = %q, %d, want %q", show(c.e), b, e, c.b)
		}
		e := sample.RoomyEntry(c.e)
		b, _ := entry.Encode(e)
		sample.SpoilEntry(e)
		if string(b) != c.b {
			t.Errorf("the code of %s changes with it", show(c.e))
		}
	}
}

// read tells what Read answers of b, how many bytes it left, and whether the source is good.
func read(b string) (api.Entry, int, bool) {
	s := varint.From([]byte(b))
	got := entry.Read(s)
	return got, s.Left(), !s.Bad()
}

// decode tells what Decode answers of b.
func decode(b string) (api.Entry, api.Errno) { return entry.Decode([]byte(b)) }

func TestDecodeAndRead(t *testing.T) {
	for _, c := range coded() {
		if got, e := decode(c.b); e != api.OK || !alike(got, c.e) {
			t.Errorf("Decode(%q) = %s, %d", c.b, show(got), e)
		}
		for _, tail := range []string{"", "\x00", "\x01\x02\x03"} {
			if got, left, ok := read(c.b + tail); !ok || left != len(tail) || !alike(got, c.e) {
				t.Errorf("Read of %q and %q = %s, %d, %v", c.b, tail, show(got), left, ok)
			}
			if got, e := decode(c.b + tail); tail != "" && (e != api.ErrCode || !alike(got, none)) {
				t.Errorf("Decode(%q) = %s, %d", c.b+tail, show(got), e)
			}
		}
		for n := range c.b {
			refuse(t, c.b[:n])
		}
	}
}

// refuse asks for b, with which no code begins.
func refuse(t *testing.T, b string) {
	t.Helper()
	if got, e := decode(b); e != api.ErrCode || !alike(got, none) {
		t.Errorf("Decode(%q) = %s, %d", show(b), show(got), e)
	}
	if got, left, ok := read(b); ok || left != 0 || !alike(got, none) {
		t.Errorf("Read of %q = %s, %d, %v", show(b), show(got), left, ok)
	}
}

// code answers the code of v.
func code(v api.Value) string {
	b, _ := codec.Encode(v)
	return string(b)
}

func TestDecodeOfWhatIsNoCode(t *testing.T) {
	head := func(kind string) string { return "\x00" + kind + "\x00\x00\x01c" }
	deepCode := strings.Repeat("\x06\x01", 8) + "\x01"
	longId := "\x04" + string(varint.Text(letters(4094)))
	long := "\x21" + letters(33)
	for _, b := range []string{
		"", "\x00", "\x80", "\x80\x00\x01\x00\x00", "\x81\x80\x80\x80\x80\x20\x01\x00\x00", "\xff\xff\xff\xff\xff\xff\xff\xff\xff\x01\x01\x00\x00", "\xff\xff\xff\xff\xff\xff\xff\xff\xff\x7f",
		"\x00\x00\x00\x00", "\x00\x08\x00\x00", "\x00\x08\x00\x00\x01c", "\x00\xff\x00\x00", "\x00\x81\x00\x00", "\x00\x81\x00\x00\x00",
		"\x00\x01\x01\x00", "\x00\x01\x00\x01", "\x00\x01\x80\x00\x00", "\x00\x01\x00\x80\x00",
		"\x00\x05\x80\x02\x00\x01c", "\x00\x05\x80\x00\x00\x01c", "\x00\x05\x00\x81\x80\x80\x80\x80\x20\x01c", "\x00\x05\x00\x80\x00\x01c",
		"\x00\x05\x00\x00\x00", "\x00\x05\x00\x00\x01$", "\x00\x05\x00\x00\x01\x00", "\x00\x05\x00\x00\x02c\x00", "\x00\x05\x00\x00\x02$c", "\x00\x05\x00\x00" + long, "\x00\x06\x00\x00" + long, "\x00\x05\x00\x00\x81\x00c", "\x00\x06\x00\x00\x00", "\x00\x06\x00\x00\x01$",
		head("\x07"), head("\x07") + "\x00", head("\x07") + "\x01c", head("\x07") + "\x01$", head("\x07") + long, "\x00\x07\x00\x00\x00\x01c",
		head("\x04"), head("\x04") + "\x00", head("\x04") + "\x08", head("\x04") + deepCode, head("\x04") + longId, head("\x04") + "\x02\x02", head("\x04") + "\x03\x80\x00", "\x00\x04\x00\x00\x00\x01", "\x00\x04\x00\x00\x01$\x01",
		head("\x02"), head("\x02") + "\x01", head("\x02") + "\x01" + code(doc(nil)), head("\x02") + "\x01" + code(null), head("\x02") + "\x01" + code(array(null)), head("\x02") + "\x01" + code(one("_id", number(0))), head("\x02") + code(number(1)) + code(one("_id", number(2))), head("\x02") + code(text("a")) + code(one("_id", bytes("a"))), head("\x02") + "\x01" + code(one("a", one("_id", null))), head("\x02") + "\x01\x07\x02\x03_id\x01\x03_id\x01", head("\x02") + code(one("_id", null)) + "\x01",
		head("\x02") + deepCode[2:] + "\x07\x01\x03_id" + deepCode[2:], head("\x02") + "\x00" + code(one("_id", null)),
		head("\x03"), head("\x03") + "\x01", head("\x03") + "\x01\x01", head("\x03") + "\x01\x80\x00", head("\x03") + "\x01\x41" + strings.Repeat("\x02\x01\x01a", 65), head("\x03") + "\x01\x01\x02\x00", head("\x03") + "\x01\x01\x00\x01\x01a", head("\x03") + "\x01\x01\x04\x01\x01a", head("\x03") + "\x01\x01\x03\x01\x01a\xe8\x07",
		head("\x03") + "\x01\x01\x02\x01\x03_id", head("\x03") + "\x01\x01\x02\x02\x03_id\x01a", head("\x03") + "\x01\x01\x01\x01\x03_id\x01", head("\x03") + "\x01\x02\x02\x01\x01a\x02\x01\x01a", head("\x03") + "\x01\x02\x02\x02\x01a\x01b\x02\x01\x01a", head("\x03") + "\x00\x00", head("\x03") + longId + "\x00", "\x00\x03\x00\x00\x01$\x01\x00",
	} {
		refuse(t, b)
	}
	if got := entry.Read(nil); !alike(got, none) {
		t.Error("of no source is read", show(got))
	}
	s := varint.From([]byte("\x00\x01\x00\x00"))
	s.Spoil()
	if got := entry.Read(s); !alike(got, none) || !s.Bad() {
		t.Error("of a bad source is read", show(got))
	}
	if got, e := entry.Decode(nil); e != api.ErrCode || !alike(got, none) {
		t.Error("of nothing is decoded", show(got))
	}
}

func TestCodesThatSayMuchInFewBytes(t *testing.T) {
	for _, b := range []string{
		"\x00\x03\x00\x00\x01c\x06" + strings.Repeat("\xff\xff\xff\xff\xff\xff\xff\xff\xff\x01", 9),
		"\x00\x04\x00\x00\x01c" + strings.Repeat("\x06\x80\x20", 4000),
		"\x00\x03\x00\x00\x01c\x01\x40" + strings.Repeat("\x01\x01\x01a\x06\x80\x20", 4000),
		"\x00\x05\x00\x00\x80\x80\x80\x80\x80\x80\x80\x80\x40",
	} {
		refuse(t, b)
	}
}

func TestWhatWasEncodedIsDecoded(t *testing.T) {
	var all []byte
	codes := map[string]bool{}
	for _, e := range good() {
		b, errno := entry.Encode(e)
		if errno != api.OK {
			t.Fatalf("%s is refused", show(e))
		}
		if got, errno := entry.Decode(b); errno != api.OK || !alike(got, e) {
			t.Fatalf("%s is decoded as %s", show(e), show(got))
		}
		all = append(all, b...)
		codes[string(b)] = true
	}
	s := varint.From(all)
	for _, e := range good() {
		if got := entry.Read(s); !alike(got, e) {
			t.Fatalf("%s is read as %s behind others", show(e), show(got))
		}
	}
	if s.Done() != api.OK {
		t.Error("bytes are left")
	}
	if len(codes) < 100 {
		t.Error("just so many codes:", len(codes))
	}
}

// anyBytes asks for any bytes, and tells whether they are a code: then what they say may be, and has that code.
func anyBytes(t *testing.T, b string) bool {
	t.Helper()
	got, e := decode(b)
	if e != api.OK {
		if e != api.ErrCode || !alike(got, none) {
			t.Fatalf("Decode(%q) = %s, %d", b, show(got), e)
		}
		return false
	}
	back, e := entry.Encode(got)
	if e != api.OK || string(back) != b || !entry.May(got) {
		t.Fatalf("%q is decoded as %s, whose code is %q, %d", b, show(got), back, e)
	}
	return true
}

func TestWhatIsDecodedHasThatCode(t *testing.T) {
	found := map[bool]int{}
	ask := func(b string) { found[anyBytes(t, b)]++ }
	for _, head := range []string{"", "\x00\x05\x00\x00", "\x01\x07\x01\x02\x01a", "\x00\x04\x00\x00\x01a", "\x00\x03\x00\x00\x01a", "\x00\x03\x00\x00\x01a\x01\x01", "\x00\x03\x00\x00\x01a\x01\x02\x02\x01\x01a", "\x00\x02\x00\x00\x01a\x01\x07\x01\x03_id", "\x00\x02\x00\x00\x01a\x02\x01\x07\x01\x03_id"} {
		sample.Behind(head, "\x00\x01\x02\x03\x04\x05\x06\x07\x08a$\x80", 4, ask)
	}
	if found[true] < 200 {
		t.Error("just so many codes:", found)
	}
}

func TestAnyBytes(t *testing.T) {
	chance, found := sample.Chance(7), map[bool]int{}
	ask := func(b string) { found[anyBytes(t, b)]++ }
	for _, c := range coded() {
		sample.Changed(c.b, ask)
		for range 500 {
			ask(chance.Change(c.b))
		}
	}
	for range 20000 {
		ask(chance.Bytes(24))
	}
	if found[true] < 2000 || found[false] < 2000 {
		t.Error("just so many codes:", found)
	}
}

// What is handed in is not changed and not kept; what is answered is new memory.

func TestWhatIsDecodedIsNewMemory(t *testing.T) {
	for _, c := range coded() {
		b := []byte(c.b + c.b)
		s := varint.From(b)
		first := entry.Read(s)
		sample.SpoilEntry(first)
		if second := entry.Read(s); string(b) != c.b+c.b || !alike(second, c.e) {
			t.Errorf("behind another one %q is read as %s", c.b, show(second))
		}
		b = []byte(c.b)
		got, _ := entry.Decode(b)
		if string(b) != c.b {
			t.Error("Decode changes what it is given")
		}
		clear(b)
		if !alike(got, c.e) {
			t.Error("Decode keeps what it is given")
		}
	}
	got, _ := decode("\x00\x02\x00\x00\x01c" + code(array(null)) + code(doc([]string{"_id", "a"}, array(null), array(null))))
	got.Id.Items[0], got.Doc.Items[1].Items[0] = number(1), number(2)
	if !alike(got, api.Entry{Kind: api.EntryInsert, Coll: "c", Id: array(number(1)), Doc: doc([]string{"_id", "a"}, array(null), array(number(2)))}) {
		t.Error("two lists of an answer are one:", show(got))
	}
	e := update("c", null, set("a", number(math.MaxInt)))
	one, _ := entry.Encode(e)
	want := slices.Clone(one)
	other, _ := entry.Encode(e)
	clear(other[:cap(other)])
	if !slices.Equal(one, want) {
		t.Error("two codes are one")
	}
}
