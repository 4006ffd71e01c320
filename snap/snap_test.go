package snap_test

import (
	"fmt"
	"math"
	"strings"
	"testing"

	"tributary/api"
	"tributary/apply"
	"tributary/sample"
	"tributary/snap"
)

// The makers of values and entries, by short names.
var (
	null, number, text, array = sample.Null(), sample.Number, sample.Text, sample.Array
	doc, one, item, deep      = sample.Doc, sample.One, sample.Item, sample.Deep
	set, drop, cut            = sample.Set, sample.Drop, sample.Cut
	by, noop, create          = sample.By, sample.Noop, sample.Create
	alike, alikeEntries       = sample.Alike, sample.AlikeEntries
)

// show is how a failed test tells of what may be long.
func show(x any) string { return fmt.Sprintf("%.300s", fmt.Sprint(x)) }

// want asks for an error's number.
func want(t *testing.T, what string, e, want api.Errno) {
	t.Helper()
	if e != want {
		t.Errorf("%.200s: %d, want %d", what, e, want)
	}
}

// made answers a state in which nothing was done.
func made(t *testing.T, keep int) *snap.State {
	t.Helper()
	x, e := snap.New(keep)
	if e != api.OK || x == nil {
		t.Fatalf("New(%d): %d", keep, e)
	}
	return x
}

// after answers a state in which entries were done.
func after(t *testing.T, keep int, l ...api.Entry) *snap.State {
	t.Helper()
	x := made(t, keep)
	for _, e := range l {
		want(t, "Do of "+show(e), x.Do(e), api.OK)
	}
	return x
}

// history are entries of all kinds, each of which is done behind those ahead of it.
func history() []api.Entry {
	return []api.Entry{
		by(noop(), 1, 0, 0), by(create("c"), 1, 1, 5), by(sample.Insert("c", item(number(1), number(5))), 1, 2, 1<<40), by(sample.Insert("c", item(null)), 2, 255, 1),
		by(sample.Update("c", number(1), set("a", array(null)), drop("b")), 2, 1, 3), by(sample.Update("c", number(1), cut("a", 0)), 2, 1, 7), by(create("d"), 2, 0, 9), by(noop(), 3, 0, 0),
		by(sample.Delete("c", number(1)), 3, 1, 7), by(sample.Insert("c", item(number(1), text("t"))), 3, 3, 0), by(sample.RenameAll("c", "e"), 3, 1, 8), by(sample.Update("e", null, set("a.b", null)), 5, 2, 1),
		by(sample.DropAll("d"), 5, 254, 300), by(create("c"), 5, 1, 9), by(sample.Insert("c", item(number(1))), 1<<40, 1, 10), by(noop(), 1<<40, 0, 0),
	}
}

// P17.1: New, Do, and what is told of a state.

func TestNew(t *testing.T) {
	for keep := range api.MaxKeep + 1 {
		agree(t, made(t, keep), before(keep))
	}
	for _, keep := range []int{-1, 65, 256, math.MinInt, math.MaxInt, 1 << 32, 64 + 1<<32} {
		if x, e := snap.New(keep); x != nil || e != api.ErrArg {
			t.Errorf("New(%d) = %v, %d", keep, x, e)
		}
	}
	one, two := made(t, 2), made(t, 2)
	one.Do(create("c"))
	agree(t, two, before(2))
}

func TestDo(t *testing.T) {
	for _, keep := range []int{0, 1, 2, 5, 64} {
		x, p := made(t, keep), before(keep)
		for _, e := range history() {
			want(t, "Do of "+show(e), x.Do(e), api.OK)
			p.do(t, e)
			agree(t, x, p)
		}
	}
}

func TestDoStepByStep(t *testing.T) {
	l := history()
	x := after(t, 64, l...)
	if x.Index() != 16 || x.Term() != 1<<40 {
		t.Errorf("behind all: Index %d, Term %d", x.Index(), x.Term())
	}
	for session, number := range map[int]int{1: 10, 2: 1 << 40, 3: 0, 4: 0, 254: 300, 255: 1, 0: 0, -1: 0, 256: 0, math.MinInt: 0, math.MaxInt: 0, 1 + 1<<32: 0} {
		if got := x.Last(session); got != number {
			t.Errorf("Last(%d) = %d, want %d", session, got, number)
		}
	}
	changed := item(number(1), array(null))
	for i, v := range map[int]api.Value{5: item(number(1), number(5)), 6: changed, 9: item(number(1), array()), 12: item(null)} {
		if got, kind, e := x.Pre(i); e != api.OK || kind != api.ImageHere || !alike(got, v) {
			t.Errorf("Pre(%d) = %s, %d, %d, want %s", i, show(got), kind, e, show(v))
		}
	}
	for _, i := range []int{1, 2, 3, 4, 7, 8, 10, 11, 13, 14, 15, 16} {
		if got, kind, e := x.Pre(i); e != api.OK || kind != api.ImageNone || !sample.None(got) {
			t.Errorf("Pre(%d) = %s, %d, %d, want none", i, show(got), kind, e)
		}
	}
	if v, e := x.Find("e", null); e != api.OK || !alike(v, doc([]string{"_id", "a"}, null, one("b", null))) {
		t.Errorf("Find = %s, %d", show(v), e)
	}
}

func TestASessionsNumberIsTheGreatest(t *testing.T) {
	x := made(t, 0)
	for i, c := range []struct{ session, number, last int }{
		{7, 5, 5}, {7, 4, 5}, {7, 5, 5}, {7, 0, 5}, {7, 6, 6}, {7, 1 << 40, 1 << 40}, {7, 1, 1 << 40}, {255, 0, 0}, {255, 1, 1}, {0, 9, 0}, {1, 1 << 40, 1 << 40}, {1, 1<<40 - 1, 1 << 40},
	} {
		e := create(fmt.Sprint("c", i))
		want(t, "Do", x.Do(by(e, 1, c.session, c.number)), api.OK)
		if got := x.Last(c.session); got != c.last {
			t.Errorf("%d: Last(%d) = %d, want %d", i, c.session, got, c.last)
		}
	}
	for session, number := range map[int]int{0: 0, 1: 1 << 40, 2: 0, 7: 1 << 40, 254: 0, 255: 1} {
		if got := x.Last(session); got != number {
			t.Errorf("Last(%d) = %d, want %d", session, got, number)
		}
	}
}

// refused are entries that are refused behind history.
func refused() map[api.Errno][]api.Entry {
	return map[api.Errno][]api.Entry{
		api.ErrArg: {
			{}, {Kind: 8}, {Kind: -1, Coll: "c"}, by(noop(), 1, 1, 0), by(noop(), -1, 0, 0), by(create("x"), 1<<40+1, 0, 0), by(create("x"), 1, 256, 0), by(create("x"), 1, -1, 0), by(create("x"), 1, 1, 1<<40+1), by(create("x"), 1, 1, -1),
			create(""), create("c$"), sample.RenameAll("c", "c"), sample.Delete("c", api.Value{}), sample.Delete("c", deep(8)), sample.Insert("c", one("a", null)), sample.Update("c", number(1), set("_id", null)), sample.Insert("c", item(sample.Deep(30000))),
		},
		api.ErrTwice: {create("c"), sample.Insert("c", item(number(1))), sample.Insert("e", item(null, null)), sample.RenameAll("c", "e")},
		api.ErrColl:  {sample.DropAll("d"), sample.Insert("d", item(null)), sample.Update("d", null), sample.Delete("d", null), sample.RenameAll("d", "x")},
		api.ErrNone:  {sample.Update("c", number(2), set("a", null)), sample.Delete("c", null)},
		api.ErrPath:  {sample.Update("e", number(1), set("a.b", null)), sample.Update("e", number(1), set("b", null), set("a.0", null))},
		api.ErrValue: {sample.Update("e", number(1), set("a", deep(7))), sample.Update("e", number(1), set("b", text(strings.Repeat("x", 4080))))},
	}
}

func TestDoRefuses(t *testing.T) {
	for _, keep := range []int{0, 1, 64} {
		x, p := made(t, keep), before(keep)
		for _, e := range history() {
			x.Do(e)
			p.do(t, e)
		}
		code := string(x.Code())
		for no, l := range refused() {
			for _, e := range l {
				want(t, "Do of "+show(e), x.Do(e), no)
				if no != api.ErrArg {
					want(t, "Do of "+show(e), x.Do(by(e, 1<<40, 1, 1<<40)), no)
				}
				if string(x.Code()) != code {
					t.Fatalf("%s, which is refused, changes the state", show(e))
				}
			}
		}
		agree(t, x, p)
	}
}

func TestDoRefusesWhereThereIsNoRoom(t *testing.T) {
	x := made(t, 1)
	for i := range api.MaxColls {
		want(t, "Do", x.Do(create(fmt.Sprint("c", i))), api.OK)
	}
	for i := range api.MaxDocs {
		want(t, "Do", x.Do(by(sample.Insert("c0", item(number(i))), 1, 1, 1+i)), api.OK)
	}
	code := string(x.Code())
	want(t, "Do", x.Do(by(create("x"), 1, 1, 999)), api.ErrFull)
	want(t, "Do", x.Do(by(sample.Insert("c0", item(number(256))), 1, 1, 999)), api.ErrFull)
	if string(x.Code()) != code || x.Index() != 272 || x.Last(1) != 256 {
		t.Error("what is refused changes the state")
	}
}

func TestLower(t *testing.T) {
	x := after(t, 2, history()...)
	p := before(2)
	for _, e := range history() {
		p.do(t, e)
	}
	inc := sample.Ops(sample.Op(api.OpInc, "n", number(2)))
	for _, a := range []api.Ask{
		sample.AskCreate("x"), sample.AskCreate("c"), sample.AskDrop("c"), sample.AskDrop("x"), sample.AskRename("c", "x"), sample.AskRename("c", "e"), sample.AskInsert("c", item(number(2))), sample.AskInsert("c", item(number(1))),
		sample.AskUpdate("c", number(1), inc), sample.AskUpdate("c", null, inc), sample.AskUpdate("c", number(1), sample.Ops()), sample.AskUpsert("c", null, inc), sample.AskUpsert("e", null, inc), sample.AskDelete("c", number(1)), sample.AskDelete("c", null), {},
	} {
		// What was done already is no reason to refuse: that is asked elsewhere.
		for _, b := range [][2]int{{1, 11}, {1, 10}, {255, 1 << 40}, {3, 1}, {0, 1}, {256, 1}, {1, 0}, {1, 1<<40 + 1}} {
			a = sample.AskBy(a, b[0], b[1])
			code := string(x.Code())
			got, no := x.Lower(a)
			wanted, wantedNo := apply.Lower(p.db, a)
			if no != wantedNo || !alikeEntries(got, wanted) || string(x.Code()) != code {
				t.Errorf("Lower(%s) = %s, %d, want %s, %d", show(a), show(got), no, show(wanted), wantedNo)
			}
		}
	}
}

func TestNil(t *testing.T) {
	for _, x := range []*snap.State{nil, {}} {
		for _, e := range append(history(), api.Entry{}) {
			want(t, "Do", x.Do(e), api.ErrClosed)
		}
		if x.Index() != 0 || x.Term() != 0 || x.Last(0) != 0 || x.Last(1) != 0 || x.Images() != nil || len(x.Base()) != 0 || len(x.Code()) != 0 || x.Fork() != nil {
			t.Error("what is no state tells something")
		}
		if v, e := x.Find("c", null); e != api.ErrClosed || !sample.None(v) {
			t.Errorf("Find = %s, %d", show(v), e)
		}
		for _, a := range []api.Ask{{}, sample.AskBy(sample.AskCreate("c"), 1, 1)} {
			if e, no := x.Lower(a); no != api.ErrClosed || !alikeEntries(e, api.Entry{}) {
				t.Errorf("Lower = %s, %d", show(e), no)
			}
		}
		for _, i := range []int{-1, 0, 1} {
			if v, kind, e := x.Pre(i); e != api.ErrClosed || kind != 0 || !sample.None(v) {
				t.Errorf("Pre(%d) = %s, %d, %d", i, show(v), kind, e)
			}
		}
	}
}

func TestForksAndImagesAreOthers(t *testing.T) {
	l := history()
	for n := range l {
		x, p := made(t, 3), before(3)
		for _, e := range l[:n] {
			x.Do(e)
			p.do(t, e)
		}
		y := x.Fork()
		z := y.Fork()
		m := x.Images()
		m.Note(text("other"), true)
		agree(t, x, p)
		for _, e := range l[n:] {
			want(t, "Do in a fork", y.Do(e), api.OK)
		}
		y.Do(by(create("f"), 9, 77, 7))
		agree(t, x, p)
		agree(t, z, p)
		if m.Top() != n+1 {
			t.Errorf("the top of images is %d, want %d", m.Top(), n+1)
		}
		m = x.Images()
		for _, e := range l[n:] {
			want(t, "Do", x.Do(e), api.OK)
			p.do(t, e)
		}
		agree(t, x, p)
		if m.Top() != n {
			t.Error("images change with the state that they were of")
		}
	}
}

// Memory.

func TestNothingIsKeptAndAnswersAreNewMemory(t *testing.T) {
	id := array(null)
	was := []api.Entry{create("c"), sample.Insert("c", item(id, array(array(null)))), sample.Update("c", id, set("a.1", one("b", array()))), sample.Delete("c", id), sample.Insert("c", item(id, array(number(1))))}
	x, p := made(t, 9), before(9)
	for _, e := range was {
		rough := sample.RoomyEntry(by(e, 1, 1, 1))
		want(t, "Do", x.Do(rough), api.OK)
		if !sample.UntouchedEntry(rough, e) {
			t.Errorf("%s changes, as it is done", show(e))
		}
		sample.SpoilEntry(rough)
		p.do(t, by(e, 1, 1, 1))
		agree(t, x, p)
	}
	found, _ := x.Find("c", id)
	sample.Spoil(found)
	for i := range was {
		v, _, _ := x.Pre(1 + i)
		sample.Spoil(v)
	}
	e, _ := x.Lower(sample.AskBy(sample.AskUpdate("c", id, sample.Ops(sample.Op(api.OpPush, "a", array(null)))), 1, 2))
	sample.SpoilEntry(e)
	for _, b := range [][]byte{x.Base(), x.Code()} {
		clear(b[:cap(b)])
	}
	agree(t, x, p)
	query := sample.Roomy(id)
	x.Find("c", query)
	a := sample.RoomyAsk(sample.AskBy(sample.AskDelete("c", id), 1, 2))
	x.Lower(a)
	if !sample.Untouched(query, id) || !sample.UntouchedAsk(a, sample.AskDelete("c", id)) {
		t.Error("what is asked for is changed")
	}
}
