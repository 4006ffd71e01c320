package image_test

import (
	"fmt"
	"math"
	"strings"
	"testing"

	"tributary/api"
	"tributary/image"
	"tributary/sample"
)

// The makers of values, by short names.
var (
	null, number, text, bytes = sample.Null(), sample.Number, sample.Text, sample.Bytes
	array, doc, one, deep     = sample.Array, sample.Doc, sample.One, sample.Deep
	alike, none               = sample.Alike, sample.None
)

func letters(n int) string { return strings.Repeat("x", n) }

// show is how a failed test tells of what may be long.
func show(x any) string { return fmt.Sprintf("%.300s", fmt.Sprint(x)) }

// notWhole are values that no images note.
func notWhole() []api.Value {
	return []api.Value{
		{}, {Kind: 8}, {Kind: -1}, {Int: 1}, {Kind: api.KindNull, Int: 1}, {Kind: api.KindBool, Int: 2}, {Kind: api.KindInt, Text: "a"},
		array(api.Value{}), doc([]string{"a"}), doc([]string{"a", "a"}, null, null), one("", null), one("$a", null), one("a.b", null), one(letters(33), null),
		deep(8), one("_id", deep(7)), text(letters(4094)), one("_id", text(letters(4088))), sample.Deep(30000),
	}
}

// whole are values that images may note: also such as are no documents.
func whole() []api.Value {
	return []api.Value{
		null, {Kind: api.KindBool}, {Kind: api.KindBool, Int: 1}, number(math.MinInt), number(300), text(""), text(letters(4093)), bytes("\x00\xff"), array(), array(null, array(text("a"))), deep(7),
		doc(nil), one("_id", null), one("a", deep(6)), doc([]string{"b", "_id", "a"}, number(1), one("_id", null), array()), one("_id", text(letters(4087))),
	}
}

// known is what was there ahead of an entry.
type known struct {
	v  api.Value
	is bool
}

// plain is images, plainly: all that was ever noted.
type plain struct {
	keep, base int
	noted      []known
}

// top is the index of the last entry that was noted.
func (p plain) top() int { return p.base + len(p.noted) }

// get is what the chapter's words say of index i.
func (p plain) get(i int) (api.Value, int, api.Errno) {
	switch {
	case i < 1 || i > p.top():
		return api.Value{}, 0, api.ErrNone
	case i <= p.base || i <= p.top()-p.keep:
		return api.Value{}, api.ImageExpired, api.OK
	}
	if k := p.noted[i-p.base-1]; k.is {
		return k.v, api.ImageHere, api.OK
	}
	return api.Value{}, api.ImageNone, api.OK
}

// indexes are those of which agree asks: all that are near the base and the top, and some far away.
func (p plain) indexes() []int {
	l := []int{math.MinInt, -1, 0, 1, 2, p.base / 2, p.top() * 2, 1 << 40, 1<<40 + 1, math.MaxInt, p.base + 1<<32, p.top() - 1<<32}
	for i := -70; i < 70; i++ {
		l = append(l, p.base+i, p.top()+i)
	}
	return l
}

// agree asks whether images are as the plain ones say, by all calls that tell.
func agree(t *testing.T, m *image.Images, p plain) {
	t.Helper()
	if got := m.Top(); got != p.top() {
		t.Fatalf("Top() = %d, want %d", got, p.top())
	}
	for _, i := range p.indexes() {
		v, kind, e := m.Get(i)
		want, wanted, none := p.get(i)
		if !alike(v, want) || kind != wanted || e != none {
			t.Fatalf("keep %d, base %d, top %d: Get(%d) = %s, %d, %d, want %s, %d, %d", p.keep, p.base, p.top(), i, show(v), kind, e, show(want), wanted, none)
		}
	}
}

// made answers images of which New refuses nothing.
func made(t *testing.T, keep, base int) *image.Images {
	t.Helper()
	m, e := image.New(keep, base)
	if e != api.OK || m == nil {
		t.Fatalf("New(%d, %d): %d", keep, base, e)
	}
	return m
}

// note notes to both.
func note(t *testing.T, m *image.Images, p *plain, v api.Value, is bool) {
	t.Helper()
	if e := m.Note(v, is); e != api.OK {
		t.Fatalf("Note(%s, %v): %d", show(v), is, e)
	}
	p.noted = append(p.noted, known{v, is})
}

// bases are some of those that there may be.
var bases = []int{0, 1, 2, 3, 63, 64, 65, 1000, 1<<32 - 1, 1 << 32, api.MaxTerm - 1, api.MaxTerm}

// P16.1: New, Note, Get, Top; P16.3: what was noted is got, until it expires.

func TestNew(t *testing.T) {
	for keep := range api.MaxKeep + 1 {
		for _, base := range bases {
			agree(t, made(t, keep, base), plain{keep: keep, base: base})
		}
	}
	for _, c := range [][2]int{
		{-1, 0}, {65, 0}, {0, -1}, {64, -1}, {0, 1<<40 + 1}, {64, 1<<40 + 1}, {-1, -1}, {65, 1<<40 + 1},
		{math.MinInt, 0}, {math.MaxInt, 0}, {0, math.MinInt}, {0, math.MaxInt}, {1 << 32, 0}, {1<<32 + 1, 1}, {1, -1 << 32},
	} {
		if m, e := image.New(c[0], c[1]); m != nil || e != api.ErrArg {
			t.Errorf("New(%d, %d) = %v, %d", c[0], c[1], m, e)
		}
	}
}

func TestNotedIsGotUntilItExpires(t *testing.T) {
	for keep := range api.MaxKeep + 1 {
		for _, base := range bases {
			m, p := made(t, keep, base), plain{keep: keep, base: base}
			for i := range 2*keep + 3 {
				note(t, m, &p, one("_id", number(i)), i%3 != 1)
				if i < 3 || i%16 == 0 || i > 2*keep || keep < 4 {
					agree(t, m, p)
				}
			}
			agree(t, m, p)
		}
	}
}

func TestThreeNoted(t *testing.T) {
	m := made(t, 2, 0)
	for i := 1; i <= 3; i++ {
		m.Note(number(i), true)
	}
	for i, want := range []int{0, api.ImageExpired, api.ImageHere, api.ImageHere, 0} {
		v, kind, e := m.Get(i)
		if kind != want || (e == api.OK) != (want != 0) || want == api.ImageHere && !alike(v, number(i)) {
			t.Errorf("Get(%d) = %v, %d, %d", i, v, kind, e)
		}
	}
}

func TestAnyWholeValueIsNoted(t *testing.T) {
	m, p := made(t, 64, 5), plain{keep: 64, base: 5}
	for _, v := range whole() {
		note(t, m, &p, v, true)
		note(t, m, &p, v, false)
		agree(t, m, p)
	}
}

func TestNoteRefuses(t *testing.T) {
	for _, keep := range []int{0, 1, 2, 64} {
		m, p := made(t, keep, 7), plain{keep: keep, base: 7}
		note(t, m, &p, one("_id", null), true)
		for _, v := range notWhole() {
			code := string(m.Code())
			if e := m.Note(v, true); e != api.ErrValue {
				t.Errorf("Note(%s): %d", show(v), e)
			}
			if agree(t, m, p); string(m.Code()) != code {
				t.Errorf("Note of %s, which is refused, changes the images", show(v))
			}
		}
		// Where there was none, what is handed in is not looked at.
		for _, v := range notWhole() {
			note(t, m, &p, v, false)
			agree(t, m, p)
		}
	}
}

func TestNotingAboveTheGreatestBase(t *testing.T) {
	m, p := made(t, 3, api.MaxTerm), plain{keep: 3, base: api.MaxTerm}
	for i := range 5 {
		note(t, m, &p, number(i), i != 2)
		agree(t, m, p)
	}
}

func TestNil(t *testing.T) {
	var m *image.Images
	for _, v := range []api.Value{null, {}, one("_id", null)} {
		for _, is := range []bool{true, false} {
			if e := m.Note(v, is); e != api.ErrClosed {
				t.Errorf("Note: %d", e)
			}
		}
	}
	for _, i := range []int{-1, 0, 1, math.MaxInt} {
		if v, kind, e := m.Get(i); e != api.ErrClosed || kind != 0 || !none(v) {
			t.Errorf("Get(%d) = %v, %d, %d", i, v, kind, e)
		}
	}
	if m.Top() != 0 || len(m.Code()) != 0 || m.Fork() != nil {
		t.Error("nil images tell something")
	}
}

func TestImagesThatNoCallMade(t *testing.T) {
	m := &image.Images{}
	m.Note(null, true)
	m.Note(api.Value{}, true)
	m.Get(1)
	m.Top()
	m.Code()
	m.Fork().Note(null, false)
}

// Memory.

func TestNothingIsKeptAndAnswersAreNewMemory(t *testing.T) {
	was := doc([]string{"_id", "a"}, array(null, array(text("t"))), one("b", array(number(1))))
	v, m := sample.Roomy(was), made(t, 2, 0)
	m.Note(v, true)
	if !sample.Untouched(v, was) {
		t.Error("Note changes what it is given")
	}
	sample.Spoil(v)
	twin := m.Fork()
	for _, x := range []*image.Images{m, twin, m, twin} {
		got, kind, e := x.Get(1)
		if e != api.OK || kind != api.ImageHere || !alike(got, was) {
			t.Fatalf("Get(1) = %s, %d, %d", show(got), kind, e)
		}
		sample.Spoil(got)
	}
	code := m.Code()
	clear(code[:cap(code)])
	if string(m.Code()) != string(twin.Code()) || len(code) != len(m.Code()) {
		t.Error("a code is the images' own memory")
	}
}

func TestNoTwoListsOfADocumentAreOne(t *testing.T) {
	shared := array(null)
	m := made(t, 1, 0)
	m.Note(array(shared, shared), true)
	got, _, _ := m.Get(1)
	sample.Spoil(got.Items[0])
	if !alike(got.Items[1], shared) {
		t.Error("two lists of an answer are one")
	}
}
