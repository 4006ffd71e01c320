package spec_test

import (
	"slices"
	"testing"

	"tributary/api"
	"tributary/codec"
	"tributary/sample"
	"tributary/spec"
	"tributary/varint"
)

// P7.2: Put and Read; P7.3: what was put is read.

// coded are updates and their codes, byte by byte.
func coded() []struct {
	s api.Spec
	b string
} {
	return []struct {
		s api.Spec
		b string
	}{
		{replace(doc(nil)), "\x01\x07\x00"},
		{replace(doc(steps("a"), number(5))), "\x01\x07\x01\x01a\x03\x0a"},
		{ops(op(api.OpSet, "a", null)), "\x00\x01\x01\x01\x01a\x01"},
		{ops(op(api.OpSet, "a.bc.0", text("t"))), "\x00\x01\x01\x03\x01a\x02bc\x010\x04\x01t"},
		{ops(unset("a.b")), "\x00\x01\x02\x02\x01a\x01b"},
		{ops(op(api.OpInc, "a", number(-1))), "\x00\x01\x03\x01\x01a\x03\x01"},
		{ops(op(api.OpPush, "a", array(null))), "\x00\x01\x04\x01\x01a\x06\x01\x01"},
		{ops(op(api.OpPull, "a", one("x", null))), "\x00\x01\x05\x01\x01a\x07\x01\x01x\x01"},
		{ops(rename("a", "b.c")), "\x00\x01\x06\x01\x01a\x02\x01b\x01c"},
		{ops(op(api.OpMin, "a", api.Value{Kind: api.KindBool, Int: 1})), "\x00\x01\x07\x01\x01a\x02\x01"},
		{ops(op(api.OpMax, "\xff", bytes("\x00"))), "\x00\x01\x08\x01\x01\xff\x05\x01\x00"},
		{ops(unset("c"), op(api.OpInc, "a", number(64)), rename("b", "d"), op(api.OpMax, "e.f", null)), "\x00\x04\x02\x01\x01c\x03\x01\x01a\x03\x80\x01\x06\x01\x01b\x01\x01d\x08\x02\x01e\x01f\x01"},
	}
}

func TestPut(t *testing.T) {
	for _, c := range coded() {
		for _, head := range []string{"", "z", "\x00\x01"} {
			if got := spec.Put([]byte(head), c.s); string(got) != head+c.b {
				t.Errorf("Put(%q, %s) = %q, want %q", head, show(c.s), got, head+c.b)
			}
		}
	}
	refused := []api.Spec{{}, ops(many(17)...), ops(unset("_id")), ops(unset("a"), unset("a.b")), ops(rename("a", "a")), replace(null), replace(one("_id", null)), replace(doc(steps("a"))), {Replace: true, Doc: doc(nil), Ops: many(1)}, {Doc: doc(nil), Ops: many(1)}}
	for _, o := range wrong() {
		refused = append(refused, ops(o), ops(unset("z"), o))
	}
	for _, s := range refused {
		if got := spec.Put([]byte("z"), s); string(got) != "z" || len(spec.Put(nil, s)) != 0 {
			t.Errorf("Put(z, %s) = %q", show(s), got)
		}
	}
}

// read tells what Read answers of b, how many bytes it left, and whether the source is good.
func read(b string) (api.Spec, int, bool) {
	s := varint.From([]byte(b))
	got := spec.Read(s)
	return got, s.Left(), !s.Bad()
}

func TestRead(t *testing.T) {
	for _, c := range coded() {
		for _, tail := range []string{"", "\x00", "\x01\x02\x03"} {
			if got, left, ok := read(c.b + tail); !ok || left != len(tail) || !alike(got, c.s) {
				t.Errorf("Read of %q and %q = %s, %d, %v", c.b, tail, show(got), left, ok)
			}
		}
		for n := range c.b {
			if got, left, ok := read(c.b[:n]); ok || left != 0 || !alike(got, api.Spec{}) {
				t.Errorf("Read of %q = %s, %d, %v", c.b[:n], show(got), left, ok)
			}
		}
		handed := []byte(c.b)
		got := spec.Read(varint.From(handed))
		if string(handed) != c.b {
			t.Error("Read changes what it is given")
		}
		clear(handed)
		if !alike(got, c.s) {
			t.Error("Read keeps what it is given")
		}
	}
}

func TestReadOfWhatIsNoCode(t *testing.T) {
	code := func(v api.Value) string {
		b, _ := codec.Encode(v)
		return string(b)
	}
	long, path := string(varint.Text(letters(4094))), string(varint.Text(letters(33)))
	seventeen := "\x00\x11"
	for i := range 17 {
		seventeen += "\x02\x01\x01" + string(rune('a'+i))
	}
	nine := "\x00\x01\x02\x09"
	for range 9 {
		nine += "\x01a"
	}
	for _, b := range []string{
		"", "\x00", "\x00\x00", "\x01", "\x02", "\xff", "\x80\x00", "\x02\x07\x00", "\x02\x01\x02\x01\x01a", seventeen, "\x00\x81\x00\x02\x01\x01a", "\x00\xff\xff\xff\xff\xff\xff\xff\xff\xff\x01",
		"\x00\x02\x02\x01\x01a", "\x00\x01\x00\x01\x01a", "\x00\x01\x00\x01\x01a\x01", "\x00\x01\x09\x01\x01a\x01", "\x00\x01\xff\x01\x01a\x01", "\x00\x01\x81\x00\x01\x01a\x01", "\x00\x02\x09\x01\x01a\x01\x02\x01\x01b",
		"\x00\x01\x02\x00", "\x00\x01\x02\x01\x00", "\x00\x01\x02\x01\x01.", "\x00\x01\x02\x01\x01$", "\x00\x01\x02\x01\x81\x00a", "\x00\x01\x02\x81\x00\x01a", "\x00\x01\x02\x01" + path, nine,
		"\x00\x01\x01\x01\x01a\x00", "\x00\x01\x01\x01\x01a\x08", "\x00\x01\x01\x01\x01a\x02\x02", "\x00\x01\x01\x01\x01a\x07\x02\x01x\x01\x01x\x01", "\x00\x01\x04\x01\x01a\x04" + long, "\x00\x01\x05\x01\x01a\x06\x01\x06\x01\x06\x01\x06\x01\x06\x01\x06\x01\x06\x01\x06\x01\x01",
		"\x00\x01\x03\x01\x01a\x01", "\x00\x01\x03\x01\x01a\x04\x011", "\x00\x01\x03\x01\x01a\x02\x01", "\x00\x01\x03\x01\x01a\x06\x00",
		"\x00\x01\x06\x01\x01a\x00", "\x00\x01\x06\x01\x01a\x01\x00", "\x00\x01\x06\x01\x01a\x01\x01$", "\x00\x01\x06\x01\x01a\x01" + path,
		"\x00\x01\x02\x01\x03_id", "\x00\x01\x06\x01\x01a\x01\x03_id", "\x00\x01\x06\x01\x01a\x01\x01a", "\x00\x02\x02\x01\x01a\x02\x01\x01a", "\x00\x02\x02\x01\x01a\x02\x02\x01a\x01b",
		"\x01\x00", "\x01" + code(null), "\x01" + code(array()), "\x01" + code(text("a")), "\x01" + code(one("_id", null)), "\x01\x07\x02\x01a\x01\x01a\x01", "\x01\x07\x01\x00\x01", "\x01\x07\x01\x01a", "\x01\x07\x01\x01a\x04" + long,
	} {
		if got, left, ok := read(b); ok || left != 0 || !alike(got, api.Spec{}) {
			t.Errorf("Read of %q = %s, %d, %v", b, show(got), left, ok)
		}
	}
	if got := spec.Read(nil); !alike(got, api.Spec{}) {
		t.Error("of no source is read", got)
	}
	s := varint.From([]byte("\x01\x07\x00"))
	s.Spoil()
	if got := spec.Read(s); !alike(got, api.Spec{}) || !s.Bad() {
		t.Error("of a bad source is read", got)
	}
}

func TestWhatWasPutIsRead(t *testing.T) {
	var all []byte
	var put []api.Spec
	for _, o := range good() {
		put = append(put, ops(o))
	}
	large := text(letters(4093))
	full := ops()
	for i := range 16 {
		full.Ops = append(full.Ops, op(api.OpSet, string(rune('a'+i)), large))
	}
	put = append(put, full, ops(many(16)...), replace(doc(nil)), replace(one("a", text(letters(4089)))), replace(one("a", deep(6))), replace(doc(steps("b", "a"), array(null), one("_id", null))))
	for _, s := range put {
		b := spec.Put(nil, s)
		if got, left, ok := read(string(b)); !ok || left != 0 || !alike(got, s) {
			t.Fatalf("%s is read as %s", show(s), show(got))
		}
		all = spec.Put(all, s)
	}
	from := varint.From(all)
	for _, s := range put {
		if got := spec.Read(from); !alike(got, s) {
			t.Fatalf("%s is read as %s behind others", show(s), show(got))
		}
	}
	if from.Done() != api.OK {
		t.Error("bytes are left")
	}
}

func TestWhatIsReadHasThatCode(t *testing.T) {
	found := 0
	ask := func(b string) {
		got, left, ok := read(b)
		if ok {
			found++
			if back := spec.Put(nil, got); spec.Check(got) != api.OK || string(back) != b[:len(b)-left] {
				t.Fatalf("%q is read as %s, whose code is %q", b, show(got), back)
			}
		} else if left != 0 || !alike(got, api.Spec{}) {
			t.Fatalf("%q is read as %s, %d", b, show(got), left)
		}
	}
	for _, head := range []string{"", "\x01\x07\x01", "\x00\x01", "\x00\x01\x02\x01\x01", "\x00\x01\x06\x01\x01b", "\x00\x01\x03\x01\x01a", "\x00\x02\x02\x01\x01a"} {
		sample.Behind(head, "\x00\x01\x02\x03\x06\x07\x08a.\x80", 4, ask)
	}
	if found < 1000 {
		t.Error("just so many codes:", found)
	}
}

func TestWhatIsReadIsNewMemory(t *testing.T) {
	for _, c := range coded() {
		b := []byte(c.b + c.b)
		s := varint.From(b)
		first := spec.Read(s)
		sample.SpoilSpec(first)
		if second := spec.Read(s); string(b) != c.b+c.b || !alike(second, c.s) {
			t.Errorf("behind another one %q is read as %s", c.b, show(second))
		}
	}
	s := ops(rename("a.b", "c.d"), op(api.OpSet, "e", array(array(null), array(null))))
	got := spec.Read(varint.From(spec.Put(nil, s)))
	got.Ops[0].Path[0], got.Ops[1].Value.Items[0].Items[0] = "x", number(1)
	if !slices.Equal(got.Ops[0].To, steps("c", "d")) || !slices.Equal(got.Ops[1].Path, steps("e")) || !sample.Alike(got.Ops[1].Value.Items[1], array(null)) {
		t.Error("two lists of an answer are one:", got)
	}
}
