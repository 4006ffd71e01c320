package image_test

import (
	"fmt"
	"slices"
	"strings"
	"testing"

	"tributary/api"
	"tributary/image"
	"tributary/sample"
	"tributary/varint"
)

// P16.2: Code, Read, Fork; P16.3: what was coded is read.

// code is a count's code.
func code(n int) string {
	b, _ := varint.Count(n)
	return string(b)
}

// counts are the codes of keep, base and top.
func counts(keep, base, top int) string { return code(keep) + code(base) + code(top) }

// of are plain images of which those were noted; nil stands for none.
func of(keep, base int, l ...*api.Value) plain {
	p := plain{keep: keep, base: base}
	for _, v := range l {
		k := known{}
		if v != nil {
			k = known{*v, true}
		}
		p.noted = append(p.noted, k)
	}
	return p
}

// made answers images to which all that the plain ones say was noted.
func (p plain) made(t *testing.T) *image.Images {
	t.Helper()
	m := made(t, p.keep, p.base)
	for _, k := range p.noted {
		if e := m.Note(k.v, k.is); e != api.OK {
			t.Fatalf("Note(%s, %v): %d", show(k.v), k.is, e)
		}
	}
	return m
}

// coded are the codes of images, byte by byte.
func coded() map[string]plain {
	x, y, z := one("_id", number(1)), null, array(text("t"))
	return map[string]plain{
		"\x00\x00\x00": of(0, 0), "\x02\x00\x00": of(2, 0), "\x40\x00\x00": of(64, 0), "\x00\x05\x05": of(0, 5), "\x03\x80\x01\x80\x01": of(3, 128),
		counts(64, 1<<40, 1<<40):                        of(64, 1<<40),
		"\x00\x00\x02":                                  of(0, 0, &x, nil),
		"\x00\x07\x09":                                  of(0, 7, &x, &y),
		"\x01\x00\x01\x00":                              of(1, 0, nil),
		"\x01\x00\x01\x01\x01":                          of(1, 0, &y),
		"\x01\x00\x02\x01\x01":                          of(1, 0, nil, &y),
		"\x01\x00\x02\x00":                              of(1, 0, &y, nil),
		"\x02\x00\x01\x01\x07\x01\x03_id\x03\x02":       of(2, 0, &x),
		"\x02\x00\x03\x00\x01\x07\x01\x03_id\x03\x02":   of(2, 0, &y, nil, &x),
		"\x02\x09\x0a\x01\x06\x01\x04\x01t":             of(2, 9, &z),
		"\x02\x09\x0c\x01\x06\x01\x04\x01t\x00":         of(2, 9, &y, &z, nil),
		"\x03\x02\x05\x01\x01\x00\x01\x01":              of(3, 2, &y, nil, &y),
		"\x03\x02\x06\x00\x01\x01\x01\x06\x01\x04\x01t": of(3, 2, &x, nil, &y, &z),
		counts(64, 1<<40-1, 1<<40) + "\x01\x01":         of(64, 1<<40-1, &y),
		counts(1, 1<<40-2, 1<<40) + "\x00":              of(1, 1<<40-2, &x, nil),
		counts(64, 0, 64) + strings.Repeat("\x00", 64):  of(64, 0, make([]*api.Value, 64)...),
		counts(64, 0, 65) + strings.Repeat("\x00", 64):  of(64, 0, make([]*api.Value, 65)...),
		counts(63, 1, 65) + strings.Repeat("\x00", 63):  of(63, 1, make([]*api.Value, 64)...),
	}
}

// read tells what Read answers of b, how many bytes it left, and whether the source is good.
func read(b string) (*image.Images, int, bool) {
	s := varint.From([]byte(b))
	got := image.Read(s)
	return got, s.Left(), !s.Bad()
}

// refuse asks for b, with which no code begins.
func refuse(t *testing.T, b string) {
	t.Helper()
	if got, left, ok := read(b); ok || left != 0 || got != nil {
		t.Errorf("Read of %q = %v, %d, %v", show(b), got, left, ok)
	}
}

func TestCodeAndRead(t *testing.T) {
	for b, p := range coded() {
		m := p.made(t)
		agree(t, m, p)
		if got := m.Code(); string(got) != b {
			t.Errorf("Code() = %q, want %q", got, b)
		}
		for _, tail := range []string{"", "\x00", "\x01\x01\x02"} {
			got, left, ok := read(b + tail)
			if !ok || left != len(tail) || string(got.Code()) != b {
				t.Fatalf("Read of %q and %q: %d, %v", b, tail, left, ok)
			}
			agree(t, got, p)
		}
		for n := range b {
			refuse(t, b[:n])
		}
	}
}

func TestReadOfWhatIsNoCode(t *testing.T) {
	nines := strings.Repeat("\xff", 9)
	for _, b := range []string{
		"", "\x41\x00\x00", "\x80\x00\x00\x00", "\x00\x80\x00\x00", "\x00\x00\x80\x00", nines + "\x01\x00\x00", "\x00" + nines + "\x01" + nines + "\x01", code(1<<32) + "\x00\x00",
		counts(0, 1<<40+1, 1<<40+1), counts(0, 0, 1<<40+1), counts(64, 1<<40, 1<<40+1) + "\x00", counts(0, 1<<62, 1<<62),
		"\x00\x01\x00", "\x02\x05\x04", "\x02\x05\x04\x00\x00", counts(64, 1<<40, 0), counts(64, 1<<40, 1<<40-1),
		"\x01\x00\x01", "\x01\x00\x01\x02", "\x01\x00\x01\x02\x01", "\x01\x00\x01\xff", "\x01\x00\x01\x03\x01", "\x02\x00\x02\x00\x02", "\x02\x00\x02\x02\x00",
		"\x01\x00\x01\x01", "\x01\x00\x01\x01\x00", "\x01\x00\x01\x01\x08", "\x01\x00\x01\x01\x02\x02", "\x01\x00\x01\x01\x07\x02\x01a\x01\x01a\x01", "\x01\x00\x01\x01\x07\x01\x01$\x01",
		"\x01\x00\x01\x01" + strings.Repeat("\x06\x01", 8) + "\x01", "\x01\x00\x01\x01\x04" + string(varint.Text(letters(4094))), "\x01\x00\x01\x01\x04" + nines + "\x01",
		counts(64, 0, 64) + strings.Repeat("\x00", 63), counts(64, 0, 1000) + strings.Repeat("\x00", 63), counts(64, 1000, 2000) + strings.Repeat("\x00", 63),
	} {
		refuse(t, b)
	}
	if got := image.Read(nil); got != nil {
		t.Error("of no source are read images")
	}
	s := varint.From([]byte("\x00\x00\x00"))
	s.Spoil()
	if got := image.Read(s); got != nil || !s.Bad() {
		t.Error("of a bad source are read images")
	}
}

func TestReadOfLargeDocuments(t *testing.T) {
	p := plain{keep: 64, base: 100}
	for i := range 70 {
		p.noted = append(p.noted, known{doc([]string{"_id", "t"}, number(i%8), text(letters(4083))), true})
	}
	m := p.made(t)
	got, left, ok := read(string(m.Code()) + "z")
	if !ok || left != 1 {
		t.Fatal("images of large documents are not read")
	}
	agree(t, got, p)
}

// goOn notes more to images, and asks at each for what the plain ones say.
func goOn(t *testing.T, m *image.Images, p plain, more int) {
	t.Helper()
	p.noted = slices.Clone(p.noted)
	for i := range more {
		note(t, m, &p, text(fmt.Sprint(i)), i%4 != 0)
		agree(t, m, p)
	}
}

func TestWhatIsReadGoesOn(t *testing.T) {
	for b, p := range coded() {
		got, _, _ := read(b)
		goOn(t, got, p, min(p.keep, 9)+3)
	}
}

// anyBytes asks for any bytes, and tells whether a code is ahead in them: then what they say has that code, and may be noted.
func anyBytes(t *testing.T, b string) bool {
	t.Helper()
	m, left, ok := read(b)
	if !ok {
		if m != nil || left != 0 {
			t.Fatalf("Read(%q) = %v, %d", b, m, left)
		}
		return false
	}
	if string(m.Code()) != b[:len(b)-left] {
		t.Fatalf("%q is read as what has the code %q", b, m.Code())
	}
	s := varint.From([]byte(b))
	keep, base, top := s.Count(64), s.Count(1<<40), s.Count(1<<40)
	if m.Top() != top {
		t.Fatalf("the top of %q is %d", b, m.Top())
	}
	first := max(base, top-keep)
	other, e := image.New(keep, first)
	for i := first + 1; i <= top; i++ {
		v, kind, none := m.Get(i)
		if none != api.OK || kind != api.ImageHere && kind != api.ImageNone || other.Note(v, kind == api.ImageHere) != api.OK {
			t.Fatalf("%q says %s, %d, %d of %d", b, show(v), kind, none, i)
		}
	}
	if want := counts(keep, first, top) + string(m.Code())[len(counts(keep, base, top)):]; e != api.OK || string(other.Code()) != want {
		t.Fatalf("what %q says can not be made", b)
	}
	return true
}

func TestWhatIsReadHasThatCode(t *testing.T) {
	found := map[bool]int{}
	ask := func(b string) { found[anyBytes(t, b)]++ }
	for _, head := range []string{"", "\x01\x00", "\x02\x00\x02", "\x02\x01\x04", "\x03\x00\x02\x01\x07\x01\x01a", "\x40\x00\x02\x01\x06\x02"} {
		sample.Behind(head, "\x00\x01\x02\x03\x04\x06\x07a$\x40\x80", 5, ask)
	}
	if found[true] < 1000 || found[false] < 1000 {
		t.Error("just so many codes:", found)
	}
}

func TestAnyBytes(t *testing.T) {
	chance, found := sample.Chance(5), map[bool]int{}
	ask := func(b string) { found[anyBytes(t, b)]++ }
	for b := range coded() {
		sample.Changed(b, ask)
	}
	for range 20000 {
		ask(chance.Bytes(24))
	}
	if found[true] < 2000 || found[false] < 2000 {
		t.Error("just so many codes:", found)
	}
}

func TestReadKeepsNothing(t *testing.T) {
	b := []byte("\x02\x00\x02\x01\x06\x02\x01\x06\x01\x04\x01t\x01\x07\x00" + "\x00\x00\x00")
	was := slices.Clone(b)
	s := varint.From(b)
	m := image.Read(s)
	clear(b)
	x, y := array(null, array(text("t"))), doc(nil)
	agree(t, m, of(2, 0, &x, &y))
	if other := image.Read(s); s.Done() != api.OK || string(other.Code()) != "\x00\x00\x00" {
		t.Error("the second images are not read")
	}
	b = slices.Clone(was)
	image.Read(varint.From(b))
	if !slices.Equal(b, was) {
		t.Error("Read changes what it is given")
	}
}

func TestFork(t *testing.T) {
	for b, p := range coded() {
		m := p.made(t)
		x, y := m.Fork(), m.Fork()
		z := x.Fork()
		goOn(t, x, p, 5)
		if string(m.Code()) != b || string(y.Code()) != b || string(z.Code()) != b {
			t.Fatalf("a fork of %q changes with the other ones", b)
		}
		goOn(t, m, p, 7)
		agree(t, y, p)
		agree(t, z, p)
		goOn(t, z, p, 3)
		goOn(t, y, p, 1)
	}
}

func TestImagesByChance(t *testing.T) {
	chance, values := sample.Chance(3), append(whole(), notWhole()[:18]...)
	for range 60 {
		keep, base := chance.Below(1+chance.Below(api.MaxKeep+1)), bases[chance.Below(len(bases)-2)]
		all, plains := []*image.Images{made(t, keep, base)}, []plain{{keep: keep, base: base}}
		for range 200 {
			k := chance.Below(len(all))
			m, p := all[k], &plains[k]
			switch chance.Below(40) {
			case 0:
				all = append(all, m.Fork())
				plains = append(plains, plain{keep: keep, base: base, noted: slices.Clone(p.noted)})
			case 1, 2:
				s := varint.From(m.Code())
				if all[k] = image.Read(s); s.Done() != api.OK {
					t.Fatalf("the code %q is not read", show(m.Code()))
				}
			default:
				i, is := chance.Below(len(values)), chance.Below(3) > 0
				if is && i >= len(whole()) {
					if e := m.Note(values[i], true); e != api.ErrValue {
						t.Fatalf("Note(%s): %d", show(values[i]), e)
					}
					break
				}
				note(t, m, p, values[i], is)
			}
			agree(t, all[k], plains[k])
		}
		for k := range all {
			agree(t, all[k], plains[k])
		}
	}
}
