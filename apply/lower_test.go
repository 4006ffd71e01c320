package apply_test

import (
	"fmt"
	"math"
	"slices"
	"strings"
	"testing"

	"tributary/api"
	"tributary/apply"
	"tributary/coll"
	"tributary/entry"
	"tributary/sample"
	"tributary/update"
)

// The makers of values, updates, requests and entries, by short names.
var (
	null, number, text, bytes = sample.Null(), sample.Number, sample.Text, sample.Bytes
	array, doc, one, deep     = sample.Array, sample.Doc, sample.One, sample.Deep
	item                      = sample.Item
	op, ops, unset, renamed   = sample.Op, sample.Ops, sample.Unset, sample.Rename
	replace                   = sample.Replace
	set, drop, cut            = sample.Set, sample.Drop, sample.Cut
	by, askBy                 = sample.By, sample.AskBy
	alike, alikeEntries       = sample.Alike, sample.AlikeEntries
	untold                    = api.Entry{}
)

func letters(n int) string { return strings.Repeat("x", n) }

// show is how a failed test tells of what may be long.
func show(x any) string { return fmt.Sprintf("%.300s", fmt.Sprint(x)) }

// want asks for an error's number.
func want(t *testing.T, what string, e, want api.Errno) {
	t.Helper()
	if e != want {
		t.Errorf("%.200s: %d, want %d", what, e, want)
	}
}

// stored are the documents of the collection c in a database of base.
func stored() []api.Value {
	return []api.Value{item(null), item(number(1), number(5)), item(text("t"), text("x")), doc([]string{"l", "_id"}, array(null, number(1)), array(null)), item(one("k", null), array(null, number(1), null))}
}

// base answers a database of the collections c, d and empty.
func base(t *testing.T) *coll.DB {
	t.Helper()
	d := coll.New()
	for _, name := range []string{"c", "d", "empty"} {
		want(t, "Create", d.Create(name), api.OK)
	}
	for _, v := range stored() {
		want(t, "Insert", d.Insert("c", v), api.OK)
	}
	want(t, "Insert", d.Insert("d", item(number(1), text("d"))), api.OK)
	return d
}

// full answers a database of as many collections as there may be, c0 to c15; c0 has as many documents as there may be, of the ids 0 to 255.
func full(t *testing.T) *coll.DB {
	t.Helper()
	d := coll.New()
	for i := range api.MaxColls {
		want(t, "Create", d.Create(fmt.Sprint("c", i)), api.OK)
	}
	for i := range api.MaxDocs {
		want(t, "Insert", d.Insert("c0", item(number(i))), api.OK)
	}
	return d
}

// lower asks for the entry of a request, and whether it leaves the database as it is.
func lower(t *testing.T, d *coll.DB, a api.Ask) (api.Entry, api.Errno) {
	t.Helper()
	code := string(d.Code())
	e, no := apply.Lower(d, a)
	if string(d.Code()) != code {
		t.Errorf("Lower of %s changes the database", show(a))
	}
	return e, no
}

// lowers asks whether a request is the entry want, which is done in a fork of the database; it answers that.
func lowers(t *testing.T, d *coll.DB, a api.Ask, want api.Entry) *coll.DB {
	t.Helper()
	e, no := lower(t, d, a)
	if no != api.OK || !alikeEntries(e, want) {
		t.Fatalf("Lower(%s) = %s, %d, want %s", show(a), show(e), no, show(want))
	}
	twin := d.Fork()
	if do := apply.Do(twin, e); !entry.May(e) || do != api.OK {
		t.Fatalf("%s, which is the entry of %s, is not done: %v, %d", show(e), show(a), entry.May(e), do)
	}
	return twin
}

// refuses asks whether a request is refused.
func refuses(t *testing.T, d *coll.DB, a api.Ask, want api.Errno) {
	t.Helper()
	if e, no := lower(t, d, a); no != want || !alikeEntries(e, untold) {
		t.Errorf("Lower(%s) = %s, %d, want %d", show(a), show(e), no, want)
	}
}

// finds asks for a document of a collection.
func finds(t *testing.T, d *coll.DB, name string, v api.Value) {
	t.Helper()
	id := v.Items[slices.Index(v.Names, "_id")]
	if got, e := d.Find(name, id); e != api.OK || !alike(got, v) {
		t.Errorf("in %s there is %s, %d, not %s", name, show(got), e, show(v))
	}
}

// lowered are requests that are done in a database of base, and their entries, but for session and number.
func lowered() []struct {
	a api.Ask
	e api.Entry
} {
	inc := ops(op(api.OpInc, "a", number(2)))
	swap := replace(one("b", array(null)))
	push := ops(op(api.OpPush, "l", text("new")), unset("q"), op(api.OpSet, "b.c", null))
	return []struct {
		a api.Ask
		e api.Entry
	}{
		{sample.AskInsert("c", item(number(2))), sample.Insert("c", item(number(2)))},
		{sample.AskInsert("empty", doc([]string{"a", "_id"}, one("_id", null), array())), sample.Insert("empty", doc([]string{"a", "_id"}, one("_id", null), array()))},
		{sample.AskInsert("d", item(deep(6), deep(6))), sample.Insert("d", item(deep(6), deep(6)))},
		{sample.AskInsert("d", item(text(letters(4087)))), sample.Insert("d", item(text(letters(4087))))},
		{sample.AskUpdate("c", number(1), inc), sample.Update("c", number(1), set("a", number(7)))},
		{sample.AskUpdate("c", null, inc), sample.Update("c", null, set("a", number(2)))},
		{sample.AskUpdate("c", array(null), push), sample.Update("c", array(null), set("l.2", text("new")), set("b.c", null))},
		{sample.AskUpdate("c", text("t"), ops(unset("q"))), sample.Update("c", text("t"))},
		{sample.AskUpdate("c", text("t"), ops(renamed("a", "b.c"))), sample.Update("c", text("t"), drop("a"), set("b.c", text("x")))},
		{sample.AskUpdate("c", one("k", null), ops(op(api.OpPull, "a", null))), sample.Update("c", one("k", null), set("a", array(number(1))))},
		{sample.AskUpdate("c", number(1), swap), sample.Update("c", number(1), drop("a"), set("b", array(null)))},
		{sample.AskUpdate("d", number(1), replace(one("a", text("d")))), sample.Update("d", number(1))},
		{sample.AskUpsert("c", number(1), inc), sample.Update("c", number(1), set("a", number(7)))},
		{sample.AskUpsert("c", text("t"), ops(unset("q"))), sample.Update("c", text("t"))},
		{sample.AskUpsert("c", number(2), inc), sample.Insert("c", item(number(2), number(2)))},
		{sample.AskUpsert("empty", text("t"), push), sample.Insert("empty", doc([]string{"_id", "l", "b"}, text("t"), array(text("new")), one("c", null)))},
		{sample.AskUpsert("empty", array(null), swap), sample.Insert("empty", doc([]string{"_id", "b"}, array(null), array(null)))},
		{sample.AskUpsert("empty", null, ops(unset("q"))), sample.Insert("empty", item(null))},
		{sample.AskUpsert("d", deep(6), ops(unset("q"))), sample.Insert("d", item(deep(6)))},
		{sample.AskDelete("c", number(1)), sample.Delete("c", number(1))},
		{sample.AskDelete("c", one("k", null)), sample.Delete("c", one("k", null))},
		{sample.AskCreate("new"), sample.Create("new")},
		{sample.AskCreate(letters(32)), sample.Create(letters(32))},
		{sample.AskDrop("c"), sample.DropAll("c")},
		{sample.AskDrop("empty"), sample.DropAll("empty")},
		{sample.AskRename("c", "new"), sample.RenameAll("c", "new")},
		{sample.AskRename("empty", letters(32)), sample.RenameAll("empty", letters(32))},
	}
}

// refused are requests that are refused in a database of base.
func refused() []struct {
	a api.Ask
	e api.Errno
} {
	fine, bad := ops(op(api.OpInc, "a", number(2))), api.Spec{}
	sized := func(n int) api.Spec { return ops(op(api.OpSet, "b", text(letters(n)))) }
	return []struct {
		a api.Ask
		e api.Errno
	}{
		{sample.AskInsert("x", item(number(2))), api.ErrColl}, {sample.AskInsert("", null), api.ErrColl}, {sample.AskInsert("$", item(number(1))), api.ErrColl},
		{sample.AskInsert("c", api.Value{}), api.ErrValue}, {sample.AskInsert("c", null), api.ErrValue}, {sample.AskInsert("c", doc(nil)), api.ErrValue}, {sample.AskInsert("c", one("a", null)), api.ErrValue},
		{sample.AskInsert("c", array(item(null))), api.ErrValue}, {sample.AskInsert("c", item(null, api.Value{})), api.ErrValue}, {sample.AskInsert("c", doc([]string{"_id"})), api.ErrValue}, {sample.AskInsert("c", doc([]string{"a", "_id"}, null)), api.ErrValue},
		{sample.AskInsert("c", item(deep(7))), api.ErrValue}, {sample.AskInsert("c", item(text(letters(4088)))), api.ErrValue}, {sample.AskInsert("c", item(sample.Deep(30000))), api.ErrValue},
		{sample.AskInsert("c", item(number(1))), api.ErrTwice}, {sample.AskInsert("c", doc([]string{"b", "_id"}, null, null)), api.ErrTwice},

		{sample.AskUpdate("x", number(1), fine), api.ErrColl}, {sample.AskUpdate("", api.Value{}, bad), api.ErrColl}, {sample.AskUpdate("x", number(2), bad), api.ErrColl},
		{sample.AskUpdate("c", number(2), fine), api.ErrNone}, {sample.AskUpdate("c", number(2), bad), api.ErrNone}, {sample.AskUpdate("c", api.Value{}, fine), api.ErrNone}, {sample.AskUpdate("c", deep(8), fine), api.ErrNone}, {sample.AskUpdate("empty", null, fine), api.ErrNone},
		{sample.AskUpdate("c", number(1), bad), api.ErrOp}, {sample.AskUpdate("c", number(1), ops(api.Op{})), api.ErrOp}, {sample.AskUpdate("c", number(1), replace(null)), api.ErrOp},
		{sample.AskUpdate("c", number(1), replace(item(number(1)))), api.ErrId}, {sample.AskUpdate("c", number(1), ops(unset("_id.a"))), api.ErrId}, {sample.AskUpdate("c", number(1), ops(unset("a"), unset("a.b"))), api.ErrConflict},
		{sample.AskUpdate("c", text("t"), fine), api.ErrType}, {sample.AskUpdate("c", number(1), ops(op(api.OpInc, "a", number(math.MaxInt)))), api.ErrOver}, {sample.AskUpdate("c", number(1), ops(op(api.OpSet, "a.b", null))), api.ErrPath},
		{sample.AskUpdate("c", number(1), ops(op(api.OpSet, "a", deep(7)))), api.ErrDepth}, {sample.AskUpdate("c", number(1), sized(4090)), api.ErrSize}, {sample.AskUpdate("c", number(1), replace(many(65))), api.ErrLong},

		{sample.AskUpsert("x", number(1), fine), api.ErrColl}, {sample.AskUpsert("x", number(2), fine), api.ErrColl}, {sample.AskUpsert("", api.Value{}, bad), api.ErrColl}, {sample.AskUpsert("x", deep(8), fine), api.ErrColl},
		{sample.AskUpsert("c", number(1), bad), api.ErrOp}, {sample.AskUpsert("c", text("t"), fine), api.ErrType}, {sample.AskUpsert("c", number(1), ops(op(api.OpSet, "a.b", null))), api.ErrPath}, {sample.AskUpsert("c", number(1), replace(item(number(1)))), api.ErrId},
		{sample.AskUpsert("c", number(2), bad), api.ErrOp}, {sample.AskUpsert("c", number(2), replace(item(number(2)))), api.ErrId}, {sample.AskUpsert("c", number(2), ops(op(api.OpSet, "a", null), op(api.OpSet, "a.b", null))), api.ErrConflict}, {sample.AskUpsert("c", number(2), replace(many(65))), api.ErrLong},
		{sample.AskUpsert("c", api.Value{}, fine), api.ErrValue}, {sample.AskUpsert("c", api.Value{}, bad), api.ErrValue}, {sample.AskUpsert("empty", deep(7), fine), api.ErrValue}, {sample.AskUpsert("c", deep(8), bad), api.ErrValue}, {sample.AskUpsert("c", text(letters(4088)), fine), api.ErrValue}, {sample.AskUpsert("c", sample.Deep(30000), fine), api.ErrValue},
		{sample.AskUpsert("c", number(2), ops(op(api.OpSet, "a", deep(7)))), api.ErrDepth}, {sample.AskUpsert("c", number(2), sized(4090)), api.ErrSize}, {sample.AskUpsert("c", number(2), ops(op(api.OpPush, "a", deep(7)))), api.ErrDepth},

		{sample.AskDelete("x", number(1)), api.ErrColl}, {sample.AskDelete("", api.Value{}), api.ErrColl}, {sample.AskDelete("c", number(2)), api.ErrNone}, {sample.AskDelete("c", api.Value{}), api.ErrNone}, {sample.AskDelete("c", sample.Deep(30000)), api.ErrNone}, {sample.AskDelete("empty", null), api.ErrNone},
		{sample.AskCreate("c"), api.ErrTwice}, {sample.AskCreate(""), api.ErrColl}, {sample.AskCreate("c$"), api.ErrColl}, {sample.AskCreate(letters(33)), api.ErrColl}, {sample.AskCreate("a\x00"), api.ErrColl},
		{sample.AskDrop("x"), api.ErrColl}, {sample.AskDrop(""), api.ErrColl}, {sample.AskDrop("$"), api.ErrColl},
		{sample.AskRename("x", "new"), api.ErrColl}, {sample.AskRename("x", "c"), api.ErrColl}, {sample.AskRename("", ""), api.ErrColl}, {sample.AskRename("c", ""), api.ErrColl}, {sample.AskRename("c", "$"), api.ErrColl}, {sample.AskRename("c", letters(33)), api.ErrColl},
		{sample.AskRename("c", "d"), api.ErrTwice}, {sample.AskRename("c", "c"), api.ErrTwice}, {sample.AskRename("empty", "c"), api.ErrTwice},
	}
}

// many is a document of n items.
func many(n int) api.Value {
	v := doc(nil)
	for i := range n {
		v.Names, v.Items = append(v.Names, fmt.Sprint("n", i)), append(v.Items, null)
	}
	return v
}

// noKinds are what no request has as its kind.
var noKinds = []int{0, 8, -1, 9, 255, 257, math.MaxInt, math.MinInt, api.AskInsert + 1<<32}

// P15.1: Lower; P15.4: the entry of a request may be, and is done.

func TestLower(t *testing.T) {
	for _, c := range lowered() {
		for _, n := range [][2]int{{1, 1}, {255, 1 << 40}, {7, 300}} {
			lowers(t, base(t), askBy(c.a, n[0], n[1]), by(c.e, 0, n[0], n[1]))
		}
	}
}

func TestLowerRefuses(t *testing.T) {
	d := base(t)
	for _, c := range refused() {
		refuses(t, d, askBy(c.a, 1, 1), c.e)
		refuses(t, d, askBy(c.a, 255, 1<<40), c.e)
	}
}

func TestLowerLooksAtSessionNumberAndKindFirst(t *testing.T) {
	d := base(t)
	var asks []api.Ask
	for _, c := range lowered() {
		asks = append(asks, c.a)
	}
	for _, c := range refused() {
		asks = append(asks, c.a)
	}
	for _, a := range asks {
		for _, n := range [][2]int{{0, 1}, {256, 1}, {-1, 1}, {math.MaxInt, 1}, {math.MinInt, 1}, {1 + 1<<32, 1}, {1, 0}, {1, -1}, {1, 1<<40 + 1}, {1, math.MaxInt}, {1, math.MinInt}, {0, 0}, {256, 1<<40 + 1}} {
			refuses(t, d, askBy(a, n[0], n[1]), api.ErrArg)
		}
	}
	for _, kind := range noKinds {
		refuses(t, d, api.Ask{Kind: kind, Session: 1, Number: 1}, api.ErrArg)
		refuses(t, d, api.Ask{Kind: kind, Coll: "c", To: "new", Id: number(1), Doc: item(number(2)), Session: 1, Number: 1}, api.ErrArg)
		refuses(t, d, api.Ask{Kind: kind, Coll: "x", Session: 1, Number: 1}, api.ErrArg)
	}
}

func TestLowerOfNoDatabase(t *testing.T) {
	for _, a := range []api.Ask{{}, sample.AskCreate("c"), askBy(sample.AskCreate("c"), 1, 1), askBy(sample.AskInsert("c", item(null)), 1, 1), askBy(api.Ask{Kind: 8}, 1, 1), askBy(sample.AskDrop(""), 256, 0)} {
		if e, no := apply.Lower(nil, a); no != api.ErrClosed || !alikeEntries(e, untold) {
			t.Errorf("Lower of %s in no database: %s, %d", show(a), show(e), no)
		}
	}
}

func TestLowerLooksJustAtWhatItsKindHas(t *testing.T) {
	d := base(t)
	other := api.Ask{Coll: "other", To: "d", Id: deep(9), Doc: api.Value{Kind: 9, Items: []api.Value{{}}}, Spec: api.Spec{Replace: true, Ops: []api.Op{{}}}}
	for _, c := range lowered() {
		a := askBy(c.a, 2, 3)
		if a.Kind != api.AskRename {
			a.To = other.To
		}
		if a.Kind != api.AskInsert {
			a.Doc = other.Doc
		}
		if a.Kind != api.AskUpdate && a.Kind != api.AskUpsert {
			a.Spec = other.Spec
			if a.Kind != api.AskDelete {
				a.Id = other.Id
			}
		}
		lowers(t, d, a, by(c.e, 0, 2, 3))
	}
}

func TestLowerInAFullDatabase(t *testing.T) {
	d := full(t)
	inc := ops(op(api.OpInc, "a", number(2)))
	for _, c := range []struct {
		a api.Ask
		e api.Errno
	}{
		{sample.AskInsert("c0", item(number(256))), api.ErrFull}, {sample.AskInsert("c0", item(number(255))), api.ErrTwice}, {sample.AskInsert("c0", null), api.ErrValue},
		{sample.AskUpsert("c0", number(256), inc), api.ErrFull}, {sample.AskUpsert("c0", number(256), ops()), api.ErrOp}, {sample.AskUpsert("c0", deep(7), inc), api.ErrValue},
		{sample.AskCreate("new"), api.ErrFull}, {sample.AskCreate("c15"), api.ErrTwice}, {sample.AskCreate("$"), api.ErrColl},
	} {
		refuses(t, d, askBy(c.a, 1, 1), c.e)
	}
	for _, c := range []struct {
		a api.Ask
		e api.Entry
	}{
		{sample.AskUpsert("c0", number(255), inc), sample.Update("c0", number(255), set("a", number(2)))},
		{sample.AskInsert("c1", item(number(256))), sample.Insert("c1", item(number(256)))},
		{sample.AskDelete("c0", number(0)), sample.Delete("c0", number(0))},
		{sample.AskRename("c0", "new"), sample.RenameAll("c0", "new")},
		{sample.AskDrop("c0"), sample.DropAll("c0")},
	} {
		lowers(t, d, askBy(c.a, 1, 1), by(c.e, 0, 1, 1))
	}
}

// specs are updates of few paths, some of which are refused.
func specs() []api.Spec {
	l := []api.Spec{{}, replace(doc(nil)), replace(one("a", number(5))), replace(one("l", array(null))), replace(item(null)), replace(null), replace(doc([]string{"z", "a"}, null, text("x")))}
	var each []api.Op
	for _, p := range []string{"a", "l", "l.0", "a.b", "b.c"} {
		for kind := api.OpSet; kind <= api.OpMax; kind++ {
			switch kind {
			case api.OpUnset:
				each = append(each, unset(p))
			case api.OpInc:
				each = append(each, op(kind, p, number(3)), op(kind, p, number(math.MaxInt)))
			case api.OpRename:
				each = append(each, renamed(p, "b.d"), renamed(p, "l.2"))
			default:
				each = append(each, op(kind, p, null), op(kind, p, number(5)), op(kind, p, deep(5)))
			}
		}
	}
	for i, o := range each {
		l = append(l, ops(o), ops(o, each[(i*7+3)%len(each)]), ops(o, each[(i*11+5)%len(each)], each[(i*13+1)%len(each)]))
	}
	return l
}

func TestTheEntryOfAnUpdateMakesWhatTheRequestAsksFor(t *testing.T) {
	d, done, no := base(t), 0, map[api.Errno]int{}
	for _, s := range specs() {
		for _, v := range stored() {
			id := v.Items[slices.Index(v.Names, "_id")]
			made, l, e := update.Apply(v, s)
			no[e]++
			for _, kind := range []int{api.AskUpdate, api.AskUpsert} {
				a := api.Ask{Kind: kind, Coll: "c", Id: id, Spec: s, Session: 9, Number: 10}
				if e != api.OK {
					refuses(t, d, a, e)
					continue
				}
				change := by(sample.Update("c", id, l...), 0, 9, 10)
				twin := lowers(t, d, a, change)
				finds(t, twin, "c", made)
				// An update that is done twice is done once.
				code := string(twin.Code())
				if e := apply.Do(twin, change); e != api.OK || string(twin.Code()) != code {
					t.Fatalf("%s, done twice: %d", show(change), e)
				}
				for _, other := range stored() {
					if !alike(other, v) {
						finds(t, twin, "c", other)
					}
				}
				done++
			}
		}
		for _, id := range []api.Value{number(77), array(array()), deep(7), {}} {
			a := askBy(sample.AskUpsert("c", id, s), 9, 10)
			made, e := update.Upsert(id, s)
			no[e]++
			if e != api.OK {
				refuses(t, d, a, e)
				continue
			}
			twin := lowers(t, d, a, by(sample.Insert("c", made), 0, 9, 10))
			finds(t, twin, "c", made)
			done++
		}
	}
	for _, e := range []api.Errno{api.OK, api.ErrOp, api.ErrConflict, api.ErrType, api.ErrPath, api.ErrOver, api.ErrValue, api.ErrId} {
		if no[e] < 3 {
			t.Error("just so many:", no)
		}
	}
	if done < 1000 {
		t.Error("just so many:", done)
	}
}

// Memory.

func TestLowerKeepsNothingAndAnswersNewMemory(t *testing.T) {
	d := base(t)
	var asks []api.Ask
	for _, c := range lowered() {
		asks = append(asks, askBy(c.a, 1, 1))
	}
	for _, c := range refused() {
		asks = append(asks, askBy(c.a, 1, 1))
	}
	for _, was := range asks {
		code, a := string(d.Code()), sample.RoomyAsk(was)
		want, no := apply.Lower(d, was)
		want = entry.Clone(want)
		e, _ := apply.Lower(d, a)
		sample.SpoilEntry(e)
		if !sample.UntouchedAsk(a, was) || string(d.Code()) != code {
			t.Fatalf("the entry of %s is memory that was handed in", show(was))
		}
		e, again := apply.Lower(d, a)
		sample.SpoilAsk(a)
		if again != no || !alikeEntries(e, want) || string(d.Code()) != code {
			t.Fatalf("the entry of %s changes with it", show(was))
		}
	}
}

func TestNoTwoListsOfAnEntryAreOne(t *testing.T) {
	shared := array(null)
	d := base(t)
	for _, a := range []api.Ask{
		sample.AskInsert("c", doc([]string{"_id", "a", "b"}, one("i", shared), one("i", shared), shared)),
		sample.AskUpsert("empty", one("i", shared), ops(op(api.OpSet, "a", one("i", shared)), op(api.OpSet, "b", shared))),
		sample.AskUpdate("c", array(null), ops(op(api.OpSet, "a", one("i", shared)), op(api.OpSet, "b", shared))),
	} {
		e, no := apply.Lower(d, askBy(a, 1, 1))
		want := entry.Clone(e)
		lists := []api.Value{e.Id}
		wanted := []api.Value{want.Id}
		for i, v := range e.Doc.Items {
			lists, wanted = append(lists, v), append(wanted, want.Doc.Items[i])
		}
		for i, v := range e.Deltas {
			lists, wanted = append(lists, v.Value), append(wanted, want.Deltas[i].Value)
		}
		for i, v := range lists {
			sample.Spoil(v)
			for k := i + 1; k < len(lists); k++ {
				if !alike(lists[k], wanted[k]) {
					t.Errorf("two lists of %s are one: %d, %d", show(want), i, k)
				}
			}
		}
		if no != api.OK || len(lists) < 3 {
			t.Error(no, len(lists))
		}
	}
}
