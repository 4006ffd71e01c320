package snap_test

import (
	"slices"
	"strings"
	"testing"

	"tributary/api"
	"tributary/image"
	"tributary/sample"
	"tributary/snap"
	"tributary/varint"
)

// P17.2: Code, Load; P17.3: a state that was loaded goes on as the one that it was of.

// greatest is the code of 2^40.
const greatest = "\x80\x80\x80\x80\x80\x20"

// stored is a database's code: a collection c of the document {_id: null}.
const stored = "\x01\x01c\x01\x07\x01\x03_id\x01"

// coded are snapshots, byte by byte, and what was done.
func coded() map[string]*plain {
	c, insert := create("c"), sample.Insert("c", item(null))
	of := func(keep int, l ...api.Entry) *plain { return &plain{keep: keep, done: l} }
	return map[string]*plain{
		"\x00\x00" + "\x02\x00\x00" + "\x00" + "\x00":                                                 of(2),
		"\x00\x00" + "\x40\x00\x00" + "\x00" + "\x00":                                                 of(64),
		"\x01\x03" + "\x02\x00\x01\x00" + "\x00" + "\x00":                                             of(2, by(noop(), 3, 0, 0)),
		"\x01" + greatest + "\x00\x00\x01" + "\x00" + "\x00":                                          of(0, by(noop(), 1<<40, 0, 0)),
		"\x01\x01" + "\x01\x00\x01\x00" + "\x01\x01\x05" + "\x01\x01c\x00":                            of(1, by(c, 1, 1, 5)),
		"\x01\x01" + "\x01\x00\x01\x00" + "\x00" + "\x01\x01c\x00":                                    of(1, by(c, 1, 9, 0)),
		"\x01\x01" + "\x01\x00\x01\x00" + "\x00" + "\x01\x01d\x00":                                    of(1, by(create("d"), 1, 0, 9)),
		"\x02\x02" + "\x03\x00\x02\x00\x00" + "\x02\x01\x05\xff\x01" + greatest + stored:              of(3, by(c, 1, 1, 5), by(insert, 2, 255, 1<<40)),
		"\x02\x02" + "\x03\x00\x02\x00\x00" + "\x02\x02\x07\x80\x01\xac\x02" + stored:                 of(3, by(c, 2, 128, 300), by(insert, 2, 2, 7)),
		"\x03\x80\x01" + "\x01\x00\x03\x01\x07\x01\x03_id\x01" + "\x01\x01\x06" + "\x01\x01c\x00":     of(1, by(c, 1, 1, 6), by(insert, 1, 1, 5), by(sample.Delete("c", null), 128, 1, 4)),
		"\x03\x02" + "\x40\x00\x03\x00\x00\x01\x07\x01\x03_id\x01" + "\x01\x01\x06" + "\x01\x01c\x00": of(64, by(c, 1, 1, 4), by(insert, 1, 1, 5), by(sample.Delete("c", null), 2, 1, 6)),
		"\x03\x02" + "\x00\x00\x03" + "\x01\x03\x01" + "\x01\x01c\x01\x07\x02\x03_id\x01\x01a\x01":    of(0, c1(c), c1(insert), by(sample.Update("c", null, set("a", null)), 2, 3, 1)),
		"\x03\x01" + "\x02\x00\x03\x00\x00" + "\x00" + "\x02\x01c\x00\x01d\x00":                       of(2, c1(create("d")), c1(noop()), c1(c)),
		"\x02\x01" + "\x02\x00\x02\x00\x00" + "\x00" + "\x00":                                         of(2, c1(c), c1(sample.DropAll("c"))),
		"\x02\x01" + "\x02\x00\x02\x00\x00" + "\x01\xfe\x01\x01" + "\x01\x01d\x00":                    of(2, c1(c), by(sample.RenameAll("c", "d"), 1, 254, 1)),
	}
}

// c1 answers an entry of term 1 that is no session's.
func c1(e api.Entry) api.Entry { return by(e, 1, 0, 0) }

// built answers the state in which all was done that p says, and p with what that made.
func (p *plain) built(t *testing.T) (*snap.State, *plain) {
	t.Helper()
	x, full := made(t, p.keep), before(p.keep)
	for _, e := range p.done {
		want(t, "Do of "+show(e), x.Do(e), api.OK)
		full.do(t, e)
	}
	return x, full
}

// loads answers the state whose snapshot b is.
func loads(t *testing.T, b string) *snap.State {
	t.Helper()
	x, e := snap.Load([]byte(b))
	if e != api.OK || x == nil {
		t.Fatalf("Load(%q): %d", show(b), e)
	}
	return x
}

// refuses asks for b, which is no snapshot.
func refuses(t *testing.T, b string) {
	t.Helper()
	if x, e := snap.Load([]byte(b)); x != nil || e != api.ErrCode {
		t.Errorf("Load(%q) = %v, %d", show(b), x, e)
	}
}

func TestCodeAndLoad(t *testing.T) {
	for b, p := range coded() {
		x, p := p.built(t)
		agree(t, x, p)
		if got := string(x.Code()); got != b {
			t.Errorf("Code() = %q, want %q", got, b)
		}
		agree(t, loads(t, b), p)
		for n := range b {
			refuses(t, b[:n])
		}
		for _, tail := range []string{"\x00", "\x01", b} {
			refuses(t, b+tail)
		}
	}
}

// snapOf is a snapshot of its parts.
func snapOf(index, term int, images, sessions, db string) string {
	return count(index) + count(term) + images + sessions + db
}

func TestLoadOfIndexAndTerm(t *testing.T) {
	none := func(top int) string { return "\x00\x00" + count(top) }
	for _, c := range [][2]int{{1, 1}, {5, 1}, {1, 5}, {300, 200}, {1 << 40, 1}, {1, 1 << 40}, {1 << 40, 1 << 40}} {
		x := loads(t, snapOf(c[0], c[1], none(c[0]), "\x00", "\x00"))
		if x.Index() != c[0] || x.Term() != c[1] {
			t.Errorf("Index, Term = %d, %d, want %v", x.Index(), x.Term(), c)
		}
	}
	for _, c := range [][3]int{
		{0, 1, 0}, {1, 0, 1}, {0, 1 << 40, 0}, {1 << 40, 0, 1 << 40}, {1, 1<<40 + 1, 1}, {1<<40 + 1, 1, 1<<40 + 1}, {1<<40 + 1, 1, 1 << 40}, {1, 1 << 62, 1}, {1 << 62, 1, 1},
		{1, 1, 0}, {1, 1, 2}, {0, 0, 1}, {5, 1, 4}, {5, 1, 6}, {1 << 40, 1, 1<<40 - 1}, {1 << 40, 1, 1<<40 + 1}, {5, 5, 1<<32 + 5},
	} {
		refuses(t, snapOf(c[0], c[1], none(c[2]), "\x00", "\x00"))
	}
	for _, b := range []string{"\x81\x00\x01", "\x01\x81\x00", "\xff\xff\xff\xff\xff\xff\xff\xff\xff\x01\x01", "\x01\xff\xff\xff\xff\xff\xff\xff\xff\xff\x01"} {
		refuses(t, b+none(1)+"\x00\x00")
	}
}

func TestLoadOfImages(t *testing.T) {
	for _, images := range []string{"\x00\x00\x03", "\x01\x00\x03\x00", "\x03\x00\x03\x00\x01\x01\x00", "\x40\x00\x03\x00\x00\x00", "\x02\x03\x03", "\x02\x02\x03\x00", "\x02\x00\x03\x00\x01\x07\x00"} {
		x := loads(t, snapOf(3, 2, images, "\x00", "\x00"))
		if string(x.Images().Code()) != images || x.Index() != 3 {
			t.Errorf("the images are %q, want %q", x.Images().Code(), images)
		}
	}
	for _, images := range []string{"\x41\x00\x03\x00\x00\x00", "\x00\x04\x03", "\x01\x00\x03", "\x01\x00\x03\x02", "\x01\x00\x03\x01\x00", "\x01\x00\x03\x01\x08", "\x01\x00\x03\x01" + strings.Repeat("\x06\x01", 8) + "\x01", "\x01\x00\x03\x00\x00"} {
		refuses(t, snapOf(3, 2, images, "\x00", "\x00"))
	}
}

func TestLoadOfSessions(t *testing.T) {
	numbers := func(l ...int) string {
		b := count(len(l) / 2)
		for _, n := range l {
			b += count(n)
		}
		return b
	}
	whole := func(sessions string) string { return snapOf(1, 1, "\x00\x00\x01", sessions, "\x00") }
	var all, many []int
	for session := 1; session <= api.MaxSession; session++ {
		all = append(all, session, session*session)
		many = append(many, session, 1)
	}
	for _, l := range [][]int{{}, {1, 1}, {255, 1}, {1, 1 << 40}, {255, 1 << 40}, {1, 9, 2, 8}, {1, 1, 255, 1}, {7, 300, 128, 1, 200, 1 << 39}, all} {
		x := loads(t, whole(numbers(l...)))
		for i := 0; i < len(l); i += 2 {
			if got := x.Last(l[i]); got != l[i+1] {
				t.Errorf("Last(%d) = %d, want %d", l[i], got, l[i+1])
			}
		}
		if string(x.Code()) != whole(numbers(l...)) {
			t.Errorf("Code() = %q", show(x.Code()))
		}
	}
	for _, l := range [][]int{
		{0, 1}, {256, 1}, {1 << 32, 1}, {1, 0}, {255, 0}, {1, 1<<40 + 1}, {1, 1 << 62}, {1, 1, 1, 2}, {2, 1, 1, 1}, {1, 1, 2, 0}, {1, 0, 2, 1}, {1, 1, 3, 1, 2, 1}, {0, 0}, {0, 1, 1, 1}, {1, 1, 255, 1, 256, 1},
		append(slices.Clone(all), 255, 1), append(slices.Clone(all), 256, 1), append([]int{0, 1}, all...), append([]int{1, 1}, many...),
	} {
		refuses(t, whole(numbers(l...)))
	}
	for _, b := range []string{"\x01", "\x01\x01", "\x02\x01\x01", "\x02\x01\x01\x02", "\x00\x01\x01", "\x80\x00", "\x01\x81\x00\x01", "\x01\x01\x81\x00", greatest, "\xff\x01"} {
		refuses(t, whole(b))
	}
}

func TestLoadOfDatabases(t *testing.T) {
	full := "\x01\x01c" + count(api.MaxDocs)
	for i := range api.MaxDocs {
		full += "\x07\x01\x03_id\x03" + string(varint.Int(i))
	}
	for _, db := range []string{"\x00", "\x01\x01c\x00", stored, "\x02\x01c\x00\x01d\x00", full} {
		if x := loads(t, snapOf(1, 1, "\x00\x00\x01", "\x00", db)); string(x.Base()) != db {
			t.Errorf("Base() = %q, want %q", show(x.Base()), show(db))
		}
	}
	for _, db := range []string{"", "\x01", "\x11", "\x01\x00\x00", "\x01\x01$\x00", "\x02\x01c\x00", "\x02\x01c\x00\x01c\x00", "\x02\x01d\x00\x01c\x00", "\x01\x01c\x01", "\x01\x01c\x01\x01", "\x01\x01c\x01\x07\x00", "\x01\x01c\x02\x07\x01\x03_id\x01\x07\x01\x03_id\x01", "\x00\x00", stored + "\x00"} {
		refuses(t, snapOf(1, 1, "\x00\x00\x01", "\x00", db))
	}
}

func TestALoadedStateGoesOn(t *testing.T) {
	l := history()
	for _, keep := range []int{0, 1, 3, 64} {
		for n := range len(l) + 1 {
			x := loads(t, string(after(t, keep, l[:n]...).Code()))
			y, p := after(t, keep, l[:n]...), before(keep)
			for i, e := range l {
				p.do(t, e)
				if i < n {
					continue
				}
				for _, wrong := range refused() {
					want(t, "Do of "+show(wrong[0]), x.Fork().Do(wrong[0]), y.Fork().Do(wrong[0]))
				}
				want(t, "Do", x.Do(e), api.OK)
				want(t, "Do", y.Do(e), api.OK)
				if string(x.Code()) != string(y.Code()) {
					t.Fatalf("loaded behind %d, the state is another one behind %d", n, i+1)
				}
			}
			agree(t, x, p)
		}
	}
}

func TestALoadedStateGoesOnBehindTheGreatestIndex(t *testing.T) {
	x := loads(t, snapOf(1<<40-1, 1, "\x02\x00"+count(1<<40-1)+"\x00\x00", "\x00", "\x00"))
	for i := range 3 {
		want(t, "Do", x.Do(by(create(string(rune('a'+i))), 2, 0, 0)), api.OK)
		if x.Index() != 1<<40+i || x.Images().Top() != 1<<40+i {
			t.Errorf("Index() = %d, want %d", x.Index(), 1<<40+i)
		}
	}
}

func TestImagesWithABaseStay(t *testing.T) {
	x := loads(t, snapOf(7, 3, "\x04\x05\x07\x01\x07\x00\x00", "\x00", "\x00"))
	want(t, "Do", x.Do(c1(create("c"))), api.OK)
	for i, kind := range map[int]int{4: api.ImageExpired, 5: api.ImageExpired, 6: api.ImageHere, 7: api.ImageNone, 8: api.ImageNone} {
		if _, got, e := x.Pre(i); e != api.OK || got != kind {
			t.Errorf("Pre(%d) = %d, %d, want %d", i, got, e, kind)
		}
	}
}

func TestAnEntryOfTermZeroIsDoneButNotLoaded(t *testing.T) {
	x, p := made(t, 1), before(1)
	for _, e := range []api.Entry{noop(), create("c")} {
		want(t, "Do", x.Do(e), api.OK)
		p.do(t, e)
		agree(t, x, p)
		refuses(t, string(x.Code()))
	}
	want(t, "Do", x.Do(by(noop(), 1, 0, 0)), api.OK)
	if y := loads(t, string(x.Code())); y.Index() != 3 || y.Term() != 1 {
		t.Errorf("Index, Term = %d, %d", y.Index(), y.Term())
	}
}

// anyBytes asks for any bytes, and tells whether they are a snapshot: then the state has that one, and goes on.
func anyBytes(t *testing.T, b string) bool {
	t.Helper()
	x, e := snap.Load([]byte(b))
	if e != api.OK {
		if x != nil || e != api.ErrCode {
			t.Fatalf("Load(%q) = %v, %d", b, x, e)
		}
		return false
	}
	if string(x.Code()) != b {
		t.Fatalf("%q is loaded as what has the snapshot %q", b, x.Code())
	}
	s := varint.From([]byte(b))
	index, term := s.Count(1<<40), s.Count(1<<40)
	m := image.Read(s)
	if x.Index() != index || x.Term() != term || (index == 0) != (term == 0) || m.Top() != index {
		t.Fatalf("%q is loaded as %d, %d", b, x.Index(), x.Term())
	}
	if e := x.Do(by(noop(), 9, 0, 0)); e != api.OK || x.Index() != index+1 || x.Term() != 9 {
		t.Fatalf("what is loaded from %q does not go on: %d", b, e)
	}
	return true
}

func TestWhatIsLoadedHasThatSnapshot(t *testing.T) {
	found := map[bool]int{}
	ask := func(b string) { found[anyBytes(t, b)]++ }
	sample.Behind("", "\x00\x01\x02\x03\x40\x80", 7, ask)
	for _, head := range []string{"\x01\x01\x01\x00\x01\x00", "\x01\x01\x00\x00\x01\x01", "\x01\x01\x00\x00\x01\x02\x01\x05", "\x00\x00\x00\x00\x00\x00\x01\x01c\x01\x07\x01\x03_id"} {
		sample.Behind(head, "\x00\x01\x02\x03\x04\x05\x07a\x80\xff", 4, ask)
	}
	if found[true] < 50 || found[false] < 1000 {
		t.Error("just so many snapshots:", found)
	}
}

func TestAnyBytes(t *testing.T) {
	chance, found := sample.Chance(17), map[bool]int{}
	ask := func(b string) { found[anyBytes(t, b)]++ }
	for b := range coded() {
		sample.Changed(b, ask)
	}
	sample.Changed(string(after(t, 4, history()...).Code()), ask)
	for range 20000 {
		ask(chance.Bytes(24))
	}
	if found[true] < 1000 || found[false] < 1000 {
		t.Error("just so many snapshots:", found)
	}
}

func TestLoadKeepsAndChangesNothing(t *testing.T) {
	p := before(5)
	x := made(t, 5)
	for _, e := range history() {
		x.Do(e)
		p.do(t, e)
	}
	room := append(x.Code(), "room"...)
	was := slices.Clone(room)
	y, e := snap.Load(room[:len(room)-4])
	if e != api.OK || !slices.Equal(room, was) {
		t.Fatalf("Load: %d, and makes %q of %q", e, show(room), show(was))
	}
	clear(room)
	agree(t, y, p)
	y.Do(create("new"))
	agree(t, x, p)
}
