package cursor_test

import (
	"bytes"
	"fmt"
	"math"
	"slices"
	"strings"
	"testing"

	"tributary/api"
	"tributary/cursor"
	"tributary/image"
	"tributary/sample"
	"tributary/token"
)

// The makers of values, changes and entries, by short names.
var (
	null, number, text, array = sample.Null(), sample.Number, sample.Text, sample.Array
	item, one                 = sample.Item, sample.One
	set, drop                 = sample.Set, sample.Drop
	insert, update, remove    = sample.Insert, sample.Update, sample.Delete
	create, dropAll, rename   = sample.Create, sample.DropAll, sample.RenameAll
	noop, by                  = sample.Noop(), sample.By
	alikeEvents               = sample.AlikeEvents
)

func letters(n int) string { return strings.Repeat("x", n) }

// show is how a failed test tells of what may be long.
func show(x any) string { return fmt.Sprintf("%.300s", fmt.Sprint(x)) }

// kinds answers the sum of the bits of kinds.
func kinds(l ...int) int {
	sum := 0
	for _, kind := range l {
		sum += 1 << kind
	}
	return sum
}

// all and ofC are filters of all collections, and of c.
var all, ofC = api.Filter{}, api.Filter{Coll: "c"}

// wrongFilters are filters that may not be.
func wrongFilters() []api.Filter {
	return []api.Filter{{Coll: "$"}, {Coll: "c\x00"}, {Coll: letters(33)}, {Path: []string{""}}, {Path: []string{"a", "$b"}}, {Path: slices.Repeat([]string{"a"}, 9)}, {Kinds: 2}, {Kinds: 1}, {Kinds: 256}, {Kinds: -4}, {Coll: "c", Path: []string{"a.b"}, Kinds: 4}}
}

// code answers the code of a token that may be.
func code(t *testing.T, kind, index, term int) []byte {
	t.Helper()
	b, e := token.Encode(api.Token{Kind: kind, Index: index, Term: term})
	if e != api.OK {
		t.Fatalf("no token has the kind %d, index %d, term %d", kind, index, term)
	}
	return b
}

// behind, end are codes of tokens of the two kinds.
func behind(t *testing.T, index, term int) []byte { return code(t, api.TokenEntry, index, term) }

func end(t *testing.T, index, term int) []byte { return code(t, api.TokenEnd, index, term) }

// stands asks how a cursor stands.
func stands(t *testing.T, c *cursor.Cursor, f api.Filter, pos int, ended bool, code []byte) {
	t.Helper()
	if c == nil {
		t.Fatal("there is no cursor")
	}
	if c.Pos() != pos || c.Ended() != ended || !bytes.Equal(c.Token(), code) {
		t.Errorf("it stands at %d, %v, %q, want %d, %v, %q", c.Pos(), c.Ended(), c.Token(), pos, ended, code)
	}
	if got := c.Filter(); got.Coll != f.Coll || !slices.Equal(got.Path, f.Path) || got.Kinds != f.Kinds {
		t.Errorf("its filter is %v, want %v", got, f)
	}
}

// noCursor asks whether there is no cursor, and why.
func noCursor(t *testing.T, what string, c *cursor.Cursor, no, want api.Errno) {
	t.Helper()
	if c != nil || no != want {
		t.Errorf("%s: %v, %d, want %d", what, c, no, want)
	}
}

// at answers a cursor that begins at an index.
func at(t *testing.T, f api.Filter, i int) *cursor.Cursor {
	t.Helper()
	c, no := cursor.At(f, i)
	if no != api.OK || c == nil {
		t.Fatalf("At(%v, %d): %v, %d", f, i, c, no)
	}
	return c
}

// P21.1: At.

func TestAt(t *testing.T) {
	for _, f := range []api.Filter{all, ofC, {Path: []string{}}, {Path: []string{"a", "0"}}, {Kinds: 252}, {Coll: letters(32), Path: slices.Repeat([]string{"a"}, 8), Kinds: 128}} {
		for _, i := range []int{1, 2, 127, 1 << 32, 1<<40 - 1, 1 << 40} {
			c, no := cursor.At(f, i)
			if no != api.OK {
				t.Fatalf("At(%v, %d): %d", f, i, no)
			}
			stands(t, c, f, i, false, nil)
		}
		for _, i := range []int{0, -1, -1 << 40, 1<<40 + 1, 1 << 41, math.MaxInt, math.MinInt} {
			c, no := cursor.At(f, i)
			noCursor(t, fmt.Sprintf("At(%v, %d)", f, i), c, no, api.ErrArg)
		}
	}
	for _, f := range wrongFilters() {
		for _, i := range []int{1, 5, 0, -1} {
			c, no := cursor.At(f, i)
			noCursor(t, fmt.Sprintf("At(%s, %d)", show(f), i), c, no, api.ErrArg)
		}
	}
}

// P21.1: After and StartAfter.

// part is a log's part.
type part struct {
	first, base int
	l           []api.Entry
}

// partOf answers a part of entries, of the terms that they have.
func partOf(first, base int, l ...api.Entry) part { return part{first, base, l} }

// termed answers entries of one term.
func termed(term int, l ...api.Entry) []api.Entry {
	out := slices.Clone(l)
	for i := range out {
		out[i].Term = term
	}
	return out
}

// after, startAfter ask for a cursor behind a token.
func (p part) after(f api.Filter, b []byte) (*cursor.Cursor, api.Errno) {
	return cursor.After(f, b, p.first, p.base, p.l)
}

func (p part) startAfter(f api.Filter, b []byte) (*cursor.Cursor, api.Errno) {
	return cursor.StartAfter(f, b, p.first, p.base, p.l)
}

// resumed is what is asked of a token, what is answered, and whether an end is due.
type resumed struct {
	p         part
	f         api.Filter
	b         []byte
	no, start api.Errno
	pos       int
	due, skip bool
}

// rows are tokens in parts of logs: no is what After says, start what StartAfter says.
func rows(t *testing.T) []resumed {
	whole := partOf(1, 0, by(create("c"), 1, 1, 1), by(dropAll("c"), 1, 1, 2), by(rename("c", "d"), 3, 0, 0), by(rename("d", "c"), 3, 0, 0), by(noop, 4, 0, 0))
	late := partOf(6, 2, by(dropAll("c"), 2, 0, 0), by(create("c"), 5, 0, 0))
	empty, begun := partOf(6, 2), partOf(1, 0)
	inserts := api.Filter{Coll: "c", Kinds: kinds(api.EntryInsert)}
	ok, gone, bad, ended := api.OK, api.ErrGone, api.ErrToken, api.ErrEnded
	return []resumed{
		{p: whole, f: all, b: behind(t, 0, 0), pos: 1}, {p: whole, f: ofC, b: behind(t, 0, 0), pos: 1}, {p: begun, f: ofC, b: behind(t, 0, 0), pos: 1}, {p: begun, f: all, b: behind(t, 0, 0), pos: 1},
		{p: whole, f: ofC, b: behind(t, 1, 1), pos: 2}, {p: whole, f: ofC, b: behind(t, 2, 1), pos: 3, due: true}, {p: whole, f: ofC, b: behind(t, 3, 3), pos: 4, due: true}, {p: whole, f: ofC, b: behind(t, 4, 3), pos: 5}, {p: whole, f: ofC, b: behind(t, 5, 4), pos: 6},
		{p: whole, f: inserts, b: behind(t, 2, 1), pos: 3, due: true}, {p: whole, f: all, b: behind(t, 2, 1), pos: 3}, {p: whole, f: api.Filter{Coll: "d"}, b: behind(t, 2, 1), pos: 3}, {p: whole, f: api.Filter{Coll: "d"}, b: behind(t, 3, 3), pos: 4}, {p: whole, f: api.Filter{Coll: "d"}, b: behind(t, 4, 3), pos: 5, due: true},
		{p: whole, f: ofC, b: behind(t, 1, 2), no: bad, start: bad}, {p: whole, f: ofC, b: behind(t, 6, 4), no: bad, start: bad}, {p: whole, f: ofC, b: end(t, 6, 4), no: bad, start: bad}, {p: whole, f: ofC, b: end(t, 2, 3), no: bad, start: bad},
		{p: whole, f: ofC, b: end(t, 2, 1), no: ended, start: ok, pos: 3}, {p: whole, f: all, b: end(t, 2, 1), no: ended, start: ok, pos: 3}, {p: whole, f: ofC, b: end(t, 5, 4), no: ended, start: ok, pos: 6}, {p: whole, f: ofC, b: end(t, 1, 1), no: ended, start: ok, pos: 2},
		// Of the entry ahead of the part nothing but its term is known.
		{p: late, f: all, b: behind(t, 5, 2), pos: 6}, {p: late, f: ofC, b: behind(t, 5, 2), no: gone, start: gone}, {p: late, f: inserts, b: behind(t, 5, 2), no: gone, start: gone}, {p: late, f: api.Filter{Path: []string{"a"}, Kinds: 4}, b: behind(t, 5, 2), pos: 6},
		{p: late, f: ofC, b: end(t, 5, 2), no: ended, start: ok, pos: 6}, {p: late, f: all, b: end(t, 5, 2), no: ended, start: ok, pos: 6}, {p: empty, f: ofC, b: behind(t, 5, 2), no: gone, start: gone}, {p: empty, f: all, b: behind(t, 5, 2), pos: 6}, {p: empty, f: ofC, b: end(t, 5, 2), no: ended, start: ok, pos: 6},
		{p: late, f: all, b: behind(t, 5, 1), no: bad, start: bad}, {p: late, f: ofC, b: end(t, 5, 1), no: bad, start: bad}, {p: late, f: ofC, b: behind(t, 4, 2), no: gone, start: gone}, {p: late, f: all, b: behind(t, 4, 2), no: gone, start: gone}, {p: late, f: ofC, b: end(t, 4, 2), no: gone, start: gone}, {p: late, f: ofC, b: behind(t, 0, 0), no: gone, start: gone}, {p: empty, f: ofC, b: behind(t, 6, 2), no: bad, start: bad},
		{p: late, f: ofC, b: behind(t, 6, 2), pos: 7, due: true}, {p: late, f: all, b: behind(t, 6, 2), pos: 7}, {p: late, f: ofC, b: behind(t, 7, 5), pos: 8}, {p: late, f: ofC, b: end(t, 6, 2), no: ended, start: ok, pos: 7},
		// An entry that may not be ends nothing.
		{p: partOf(1, 0, api.Entry{Term: 1, Kind: api.EntryDrop, Coll: "c", To: "d"}), f: ofC, b: behind(t, 1, 1), pos: 2},
		{p: partOf(1<<40, 7, by(dropAll("c"), 1<<40, 0, 0)), f: ofC, b: behind(t, 1<<40, 1<<40), pos: 1<<40 + 1, due: true}, {p: partOf(1<<40, 7, by(dropAll("c"), 1<<40, 0, 0)), f: ofC, b: end(t, 1<<40, 1<<40), no: ended, start: ok, pos: 1<<40 + 1}, {p: partOf(math.MaxInt, 7, termed(1, noop, noop)...), f: all, b: behind(t, 1<<40, 1), no: gone, start: gone},
	}
}

func TestAfter(t *testing.T) {
	for i, r := range rows(t) {
		c, no := r.p.after(r.f, r.b)
		d, start := r.p.startAfter(r.f, r.b)
		if no != r.no || (c == nil) != (no != api.OK) || start != r.start || (d == nil) != (start != api.OK) {
			t.Errorf("row %d: After %v, %d, want %d; StartAfter %v, %d, want %d", i, c, no, r.no, d, start, r.start)
			continue
		}
		for _, c := range []*cursor.Cursor{c, d} {
			if c != nil {
				stands(t, c, r.f, r.pos, false, r.b)
				dueEnd(t, c, r.due, r.b)
			}
		}
	}
}

// dueEnd asks whether an end is due of the entry whose token is b, and nothing else, where nothing follows.
func dueEnd(t *testing.T, c *cursor.Cursor, due bool, b []byte) {
	t.Helper()
	pos, f := c.Pos(), c.Filter()
	l, no := c.Next(1, nil, nil, 64)
	if no != api.OK || len(l) != map[bool]int{true: 1}[due] {
		t.Errorf("behind %q: %d, %v, want an end: %v", b, no, l, due)
		return
	}
	if due {
		k, _ := token.Decode(b)
		isEnd(t, l[0], k.Index, k.Term, f.Coll)
		b = end(t, k.Index, k.Term)
	}
	stands(t, c, f, pos, due, b)
}

// isEnd asks whether v is an end's event.
func isEnd(t *testing.T, v api.Event, index, term int, name string) {
	t.Helper()
	want := api.Event{Kind: api.EventInvalid, Index: index, Term: term, Coll: name, Had: api.ImageNone, Has: api.ImageNone, Token: end(t, index, term)}
	if !alikeEvents(v, want) {
		t.Errorf("%s is no end, want %s", show(v), show(want))
	}
}

func TestAfterOfWhatMayNotBe(t *testing.T) {
	whole := partOf(1, 0, termed(1, create("c"), dropAll("c"))...)
	codes := [][]byte{behind(t, 0, 0), behind(t, 1, 1), end(t, 2, 1), behind(t, 9, 9), nil, []byte("x")}
	refused := func(p part, f api.Filter, b []byte, want api.Errno) {
		t.Helper()
		what := fmt.Sprintf("behind %q in a part from %d on, by %s", b, p.first, show(f))
		c, no := p.after(f, b)
		noCursor(t, what, c, no, want)
		c, no = p.startAfter(f, b)
		noCursor(t, what, c, no, want)
	}
	for _, b := range codes {
		for _, f := range wrongFilters() {
			refused(whole, f, b, api.ErrArg)
			refused(partOf(0, 0), f, b, api.ErrArg)
		}
	}
	good := behind(t, 1, 1)
	for _, b := range [][]byte{nil, {}, []byte("x"), good[:6], append(slices.Clone(good), 0), append([]byte{2}, good[1:]...), append([]byte{3}, good[1:]...), bytes.Repeat(good, 2), []byte(letters(100))} {
		for _, p := range []part{whole, partOf(0, 0), partOf(5, 1)} {
			refused(p, ofC, b, api.ErrToken)
			refused(p, all, b, api.ErrToken)
		}
	}
	// What is no part of a log comes behind what is no token, and ahead of all else.
	for _, first := range []int{0, -1, -5, math.MinInt} {
		for _, b := range codes[:4] {
			refused(part{first, 1, whole.l}, ofC, b, api.ErrArg)
			refused(part{first, 0, nil}, all, b, api.ErrArg)
		}
	}
}

// P21.3: of a nil Cursor.

func TestNilCursor(t *testing.T) {
	var c *cursor.Cursor
	m, _ := image.New(1, 0)
	for _, first := range []int{1, 0, -1} {
		for _, max := range []int{1, 64, 0, 65} {
			if l, no := c.Next(first, termed(1, create("c")), m, max); len(l) != 0 || no != api.ErrClosed {
				t.Errorf("Next of nil: %v, %d", l, no)
			}
		}
	}
	if f := c.Filter(); c.Pos() != 0 || c.Ended() || f.Coll != "" || len(f.Path) != 0 || f.Kinds != 0 || len(c.Token()) != 0 || c.Fork() != nil {
		t.Error("a nil cursor has something")
	}
}
