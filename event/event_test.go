package event_test

import (
	"fmt"
	"math"
	"slices"
	"strings"
	"testing"

	"tributary/api"
	"tributary/entry"
	"tributary/event"
	"tributary/frame"
	"tributary/sample"
	"tributary/token"
)

// The makers of values, changes and entries, by short names.
var (
	null, number, text, bytes = sample.Null(), sample.Number, sample.Text, sample.Bytes
	array, doc, one, deep     = sample.Array, sample.Doc, sample.One, sample.Deep
	item                      = sample.Item
	set, drop, cut            = sample.Set, sample.Drop, sample.Cut
	insert, update, remove    = sample.Insert, sample.Update, sample.Delete
	create, dropAll, rename   = sample.Create, sample.DropAll, sample.RenameAll
	noop, by                  = sample.Noop(), sample.By
	alike, alikeEvents        = sample.Alike, sample.AlikeEvents
	none                      = api.Value{}
)

func letters(n int) string { return strings.Repeat("x", n) }

// show is how a failed test tells of what may be long.
func show(x any) string { return fmt.Sprintf("%.300s", fmt.Sprint(x)) }

// want asks for an error's number.
func want(t *testing.T, what string, e, want api.Errno) {
	t.Helper()
	if e != want {
		t.Errorf("%.200s: %d, want %d", what, e, want)
	}
}

// tokenOf answers the code of a token that may be.
func tokenOf(t *testing.T, kind, index, term int) []byte {
	t.Helper()
	code, e := token.Encode(api.Token{Kind: kind, Index: index, Term: term})
	want(t, "a token", e, api.OK)
	return code
}

// P20.1: Of.

// known is what is told of a document: the document itself, or that it is not there, or not kept.
type known struct {
	v   api.Value
	how int
}

func here(v api.Value) known { return known{v, api.ImageHere} }

var absent, expired = known{how: api.ImageNone}, known{how: api.ImageExpired}

// row is an entry, what is known ahead of it, and behind it.
type row struct {
	e         api.Entry
	pre, post known
}

// aheads are some of what may be known ahead of an entry.
func aheads() []known {
	return []known{
		absent, expired, here(null), here(number(5)), here(text(letters(4093))), here(bytes("\x00")), here(array(null, array())), here(doc(nil)), here(deep(7)),
		here(item(number(1), number(5))), here(item(array(null), one("b", number(2)))), here(one("_id", text(letters(4087)))), here(one("a", deep(6))),
	}
}

// rows are entries of all kinds.
func rows() []row {
	var l []row
	for _, ahead := range aheads() {
		for _, v := range []api.Value{item(number(1)), item(array(null), one("b", null)), doc([]string{"a", "_id"}, deep(6), deep(6)), one("_id", text(letters(4087)))} {
			l = append(l, row{insert("c", v), ahead, here(v)})
		}
		for _, e := range []api.Entry{remove("c", number(1)), remove("c", deep(7)), create("c"), dropAll("c"), rename("c", "d"), rename(letters(32), "\xff")} {
			l = append(l, row{e, ahead, absent})
		}
	}
	for _, e := range []api.Entry{update("c", null), update("c", number(1), set("a", null)), update("c", null, drop("a.b"), cut("c", 0)), update("c", null, set("a", deep(7)))} {
		l = append(l, row{e, absent, expired}, row{e, expired, expired})
	}
	return append(l, updates()...)
}

// updates are changes of documents that are known.
func updates() []row {
	v, w := item(number(1), number(5)), doc([]string{"l", "_id", "d"}, array(null, number(1), null), null, one("x", one("y", array())))
	changed := func(v api.Value, post api.Value, l ...api.Delta) row {
		return row{update("c", number(1), l...), here(v), here(post)}
	}
	return []row{
		changed(v, v), changed(w, w), changed(doc(nil), doc(nil)),
		changed(v, item(number(1), null), set("a", null)),
		changed(v, doc([]string{"_id", "a", "b"}, number(1), number(5), one("c", null)), set("b.c", null)),
		changed(v, item(number(1)), drop("a")), changed(v, v, drop("x"), cut("a", 0)), changed(v, v, drop("a.b"), cut("x.y", 3)),
		changed(v, doc([]string{"_id", "b"}, number(1), text("t")), drop("a"), set("b", text("t"))),
		changed(w, doc([]string{"l", "_id", "d"}, array(null), null, one("x", doc(nil))), cut("l", 1), drop("d.x.y")),
		changed(w, doc([]string{"l", "_id", "d"}, array(null, null, null, text("n")), null, one("x", one("y", array(null)))), set("l.3", text("n")), drop("l.1"), set("d.x.y.0", null)),
		// The document ahead is as it is said to be, of whatever id.
		changed(doc(nil), one("a", null), set("a", null)), changed(item(text("other")), item(text("other"), null), set("a", null)),
		// What is made may be too deep, or too large, to be whole.
		changed(v, item(number(1), deep(7)), set("a", deep(7))), changed(v, doc([]string{"_id", "a", "b"}, number(1), text(letters(4000)), text(letters(4000))), set("a", text(letters(4000))), set("b", text(letters(4000)))),
		changed(one("_id", number(1)), doc([]string{"_id", "b"}, number(1), sample.Within(null, "c", "d", "e", "f", "g", "h", "i")), set("b.c.d.e.f.g.h.i", null)),
	}
}

// eventOf is the event that the chapter's words say.
func eventOf(t *testing.T, r row, index int) api.Event {
	return api.Event{
		Kind: r.e.Kind, Index: index, Term: r.e.Term, Coll: r.e.Coll, To: r.e.To, Id: r.e.Id, Deltas: r.e.Deltas,
		Pre: r.pre.v, Had: r.pre.how, Post: r.post.v, Has: r.post.how, Token: tokenOf(t, api.TokenEntry, index, r.e.Term),
	}
}

func TestOf(t *testing.T) {
	for _, r := range rows() {
		for _, at := range []struct{ index, term int }{{1, 1}, {5, 2}, {2, 5}, {300, 1}, {1 << 40, 1}, {1, 1 << 40}, {1 << 40, 1 << 40}, {0, 0}} {
			r.e.Term = at.term
			got, e := event.Of(r.e, at.index, r.pre.v, r.pre.how)
			if wanted := eventOf(t, r, at.index); e != api.OK || !alikeEvents(got, wanted) {
				t.Errorf("Of(%s, %d, %s) = %s, %d, want %s", show(r.e), at.index, show(r.pre), show(got), e, show(wanted))
			}
		}
	}
}

func TestOfByASession(t *testing.T) {
	for _, r := range rows() {
		r.e = by(r.e, 3, 0, 0)
		wanted, no := event.Of(r.e, 7, r.pre.v, r.pre.how)
		got, e := event.Of(by(r.e, 3, 255, 1<<40), 7, r.pre.v, r.pre.how)
		if e != api.OK || no != api.OK || !alikeEvents(got, wanted) {
			t.Errorf("by a session, %s is %s, want %s", show(r.e), show(got), show(wanted))
		}
	}
}

func TestOfStepByStep(t *testing.T) {
	v := item(number(1))
	got, e := event.Of(by(remove("c", number(1)), 2, 1, 1), 5, v, api.ImageHere)
	if e != api.OK || got.Kind != 4 || got.Index != 5 || got.Term != 2 || got.Coll != "c" || !alike(got.Id, number(1)) || !alike(got.Pre, v) || got.Had != 2 || !alike(got.Post, none) || got.Has != 1 {
		t.Errorf("of a delete: %s, %d", show(got), e)
	}
	sum := frame.Sum([]byte{1, 5, 2})
	if wanted := []byte{1, 5, 2, byte(sum), byte(sum >> 8), byte(sum >> 16), byte(sum >> 24)}; string(got.Token) != string(wanted) {
		t.Errorf("the token is %v, want %v", got.Token, wanted)
	}
}

// refused asks whether there is no event, and why.
func refused(t *testing.T, e api.Entry, index int, pre api.Value, had int, no api.Errno) {
	t.Helper()
	if got, is := event.Of(e, index, pre, had); is != no || !alikeEvents(got, api.Event{}) {
		t.Errorf("Of(%s, %d, %s, %d) = %s, %d, want %d", show(e), index, show(pre), had, show(got), is, no)
	}
}

// some are entries of each kind, all of a term, ahead of which anything may be known.
func some(term int) []api.Entry {
	l := []api.Entry{insert("c", item(number(1))), update("c", number(1), set("a", null)), update("c", null), remove("c", number(1)), create("c"), dropAll("c"), rename("c", "d")}
	for i := range l {
		l[i].Term = term
	}
	return l
}

func TestOfAPlaceThatMakesNoToken(t *testing.T) {
	for _, at := range []struct{ index, term int }{
		{0, 1}, {0, 1 << 40}, {1, 0}, {1 << 40, 0}, {-1, 0}, {-1, 1}, {-1 << 40, 1}, {1<<40 + 1, 1}, {1<<40 + 1, 0}, {1 << 41, 1 << 40}, {math.MaxInt, 1}, {math.MinInt, 1}, {math.MinInt, 0}, {1 << 63 >> 1, 1},
		{1, -1}, {-1, -1}, {1, 1<<40 + 1}, {1, math.MaxInt}, {1, math.MinInt}, {0, -1}, {0, math.MinInt},
	} {
		for _, e := range some(at.term) {
			refused(t, e, at.index, none, api.ImageNone, api.ErrArg)
			refused(t, e, at.index, item(number(1), null), api.ImageHere, api.ErrArg)
			// What the changes would be refused for comes behind.
			refused(t, e, at.index, null, api.ImageHere, api.ErrArg)
		}
	}
}

func TestOfANoop(t *testing.T) {
	for _, term := range []int{0, 1, 5, 1 << 40} {
		for _, ahead := range aheads() {
			refused(t, by(noop, term, 0, 0), min(term, 1), ahead.v, ahead.how, api.ErrArg)
			refused(t, by(noop, term, 1, 1), min(term, 1), ahead.v, ahead.how, api.ErrArg)
		}
	}
}

// wrong are entries that may not be; but for that they would have an event at the index 1.
func wrong() []api.Entry {
	l := []api.Entry{
		{}, {Kind: 8}, {Kind: 8, Coll: "c"}, {Kind: -1, Coll: "c"}, {Kind: api.EntryDrop + 1<<32, Coll: "c"}, {Kind: math.MaxInt}, {Kind: math.MinInt, Coll: "c"},
		create(""), create("c$"), create(letters(33)), dropAll("\x00"), rename("c", "c"), rename("c", ""), rename("$", "c"), {Kind: api.EntryDrop, Coll: "c", To: "d"}, {Kind: api.EntryCreate, Coll: "c", Id: null}, {Kind: api.EntryDelete, Coll: "c", Id: null, Doc: item(null)}, {Kind: api.EntryInsert, Coll: "c", Id: null, Doc: item(null), Deltas: []api.Delta{drop("a")}},
		insert("c", one("a", null)), insert("c", null), insert("c", item(deep(7))), {Kind: api.EntryInsert, Coll: "c", Id: number(1), Doc: item(number(2))}, {Kind: api.EntryInsert, Coll: "c", Doc: item(null)},
		update("c", none), update("c", null, drop("_id")), update("c", null, set("_id.a", null)), update("c", null, set("a", null), drop("a.b")), update("c", null, api.Delta{}), update("c", null, set("a", deep(8))), update("c", null, slices.Repeat([]api.Delta{drop("a")}, 65)...),
		remove("c", none), remove("c", deep(8)), remove("", null),
	}
	for i := range l {
		l[i].Term = 1
	}
	for _, e := range some(1) {
		l = append(l, by(e, 1, -1, 0), by(e, 1, 256, 0), by(e, 1, 0, -1), by(e, 1, 0, 1<<40+1))
	}
	return l
}

func TestOfWhatMayNotBe(t *testing.T) {
	for _, e := range wrong() {
		if entry.May(e) {
			t.Fatalf("%s may be", show(e))
		}
		for _, ahead := range aheads() {
			refused(t, e, 1, ahead.v, ahead.how, api.ErrArg)
		}
	}
}

func TestOfWhatIsNotKnown(t *testing.T) {
	notWhole := []api.Value{
		none, {Kind: 8}, {Kind: -1}, {Int: 1}, {Kind: api.KindNull, Int: 1}, {Kind: api.KindBool, Int: 2}, array(none), doc([]string{"a"}), doc([]string{"a", "a"}, null, null), one("", null), one("$a", null),
		deep(8), one("_id", deep(7)), text(letters(4094)), one("_id", text(letters(4088))), sample.Deep(30000),
	}
	thing := []api.Value{null, number(0), item(number(1)), doc(nil), deep(8), {Int: 1}, {Text: "a"}, {Items: []api.Value{{}}}, {Names: []string{""}}, {Kind: -1}}
	for _, e := range some(1) {
		for _, v := range notWhole {
			refused(t, e, 1, v, api.ImageHere, api.ErrArg)
		}
		for _, v := range thing {
			refused(t, e, 1, v, api.ImageNone, api.ErrArg)
			refused(t, e, 1, v, api.ImageExpired, api.ErrArg)
		}
		for _, had := range []int{0, 4, -1, 5, 255, 256, 257, api.ImageNone + 1<<32, api.ImageHere + 1<<32, math.MaxInt, math.MinInt} {
			refused(t, e, 1, none, had, api.ErrArg)
			refused(t, e, 1, item(number(1)), had, api.ErrArg)
		}
		// Lists that are empty are as none.
		empty := api.Value{Items: []api.Value{}, Names: []string{}}
		for _, had := range []int{api.ImageNone, api.ImageExpired} {
			if got, no := event.Of(e, 1, empty, had); no != api.OK || !alike(got.Pre, none) {
				t.Errorf("Of(%s) ahead of which is nothing: %s, %d", show(e), show(got), no)
			}
		}
	}
}

func TestOfChangesThatAreRefused(t *testing.T) {
	v := doc([]string{"_id", "a", "l"}, number(1), number(5), array(null))
	change := func(l ...api.Delta) api.Entry { return by(update("c", number(1), l...), 1, 1, 1) }
	for _, e := range []api.Entry{change(set("a.b", null)), change(set("b", null), set("a.b.c", null)), change(set("l.2", null)), change(set("l.x", null)), change(set("l.01", null)), change(set("l.2", null), set("l.1", null)), change(set("_idx.a", null), set("a.0", null))} {
		refused(t, e, 1, v, api.ImageHere, api.ErrPath)
		refused(t, e, 0, v, api.ImageHere, api.ErrArg)
		refused(t, e, 1, v, api.ImageNone, api.ErrArg)
	}
	for _, v := range []api.Value{null, number(1), text("a"), array(), array(item(number(1))), deep(7)} {
		for _, e := range []api.Entry{change(), change(set("a", null)), change(drop("a")), change(set("0", null))} {
			refused(t, e, 1, v, api.ImageHere, api.ErrValue)
		}
	}
}

// P20.1: End.

func TestEnd(t *testing.T) {
	for _, at := range []struct{ index, term int }{{1, 1}, {5, 2}, {2, 5}, {300, 1}, {1 << 40, 1}, {1, 1 << 40}, {1 << 40, 1 << 40}} {
		for _, name := range []string{"c", "_id", ".", "\xff", " ", letters(32)} {
			got, e := event.End(at.index, at.term, name)
			wanted := api.Event{Kind: 8, Index: at.index, Term: at.term, Coll: name, Had: 1, Has: 1, Token: tokenOf(t, api.TokenEnd, at.index, at.term)}
			if e != api.OK || !alikeEvents(got, wanted) {
				t.Errorf("End(%d, %d, %q) = %s, %d, want %s", at.index, at.term, name, show(got), e, show(wanted))
			}
		}
	}
}

func TestEndRefuses(t *testing.T) {
	refused := func(index, term int, name string) {
		if got, e := event.End(index, term, name); e != api.ErrArg || !alikeEvents(got, api.Event{}) {
			t.Errorf("End(%d, %d, %q) = %s, %d", index, term, show(name), show(got), e)
		}
	}
	for _, at := range []struct{ index, term int }{
		{0, 0}, {0, 1}, {1, 0}, {-1, 1}, {1, -1}, {-1, -1}, {0, -1}, {1<<40 + 1, 1}, {1, 1<<40 + 1}, {math.MaxInt, 1}, {1, math.MaxInt}, {math.MinInt, 1}, {1, math.MinInt}, {math.MinInt, math.MinInt}, {1 + 1<<41, 1},
	} {
		refused(at.index, at.term, "c")
		refused(at.index, at.term, "")
	}
	for _, name := range []string{"", "$", "$c", "c$", "\x00", "c\x00", letters(33), letters(31) + "$", letters(100000)} {
		refused(1, 1, name)
		refused(5, 2, name)
	}
}
