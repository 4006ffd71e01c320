package update_test

import (
	"fmt"
	"math"
	"slices"
	"strconv"
	"strings"
	"testing"

	"tributary/api"
	"tributary/codec"
	"tributary/delta"
	"tributary/sample"
	"tributary/spec"
	"tributary/update"
	"tributary/value"
)

// The makers of values, changes and updates, by short names.
var (
	null, number, text  = sample.Null(), sample.Number, sample.Text
	array, doc, one     = sample.Array, sample.Doc, sample.One
	deep, alike, none   = sample.Deep, sample.Alike, sample.None
	set, drop, sameList = sample.Set, sample.Drop, sample.AlikeDeltas
	op, unset, rename   = sample.Op, sample.Unset, sample.Rename
	ops, replace        = sample.Ops, sample.Replace
)

func steps(l ...string) []string { return l }

func letters(n int) string { return strings.Repeat("x", n) }

// nulls is an array of n nulls.
func nulls(n int) api.Value { return array(slices.Repeat([]api.Value{null}, n)...) }

// show is how a failed test tells of what may be long.
func show(x any) string { return fmt.Sprintf("%.300s", fmt.Sprint(x)) }

// of is the value of a text.
func of(s string) api.Value {
	v, e := codec.Parse(s)
	if e != api.OK {
		panic("no text of a value: " + s)
	}
	return v
}

// with is a document of the id 1 and the items that stand in a text.
func with(items string) api.Value { return of(`{"_id":1,` + items + `}`) }

// numbered is a document of an id, and n numbers, from x on.
func numbered(n, x int) api.Value {
	v := one("_id", number(1))
	for i := range n {
		v.Names, v.Items = append(v.Names, "n"+strconv.Itoa(i)), append(v.Items, number(x+i))
	}
	return v
}

// wide is a document of n items that is as small as it may be.
func wide(n int) api.Value {
	v := nulls(n)
	v.Kind = api.KindDoc
	for i := range n {
		v.Names = append(v.Names, strings.TrimLeft(string([]byte{byte('0' + i/64), byte('0' + i%64)}), "0"))
	}
	v.Names[0] = "00"
	return v
}

// rest is a document without its first item, the id.
func rest(v api.Value) api.Value { return doc(v.Names[1:], v.Items[1:]...) }

// noDocs are values that are no whole document with an item _id.
func noDocs() []api.Value {
	return []api.Value{
		{}, null, number(1), array(one("_id", null)), doc(nil), one("a", null), one("a", one("_id", null)), doc(steps("_id")), doc(steps("_id", "_id"), null, null), one("_id", api.Value{}), doc(steps("_id", "a"), null, api.Value{}),
		one("_id", deep(7)), doc(steps("_id", "a"), null, deep(7)), doc(steps("_id", "a"), null, text(letters(4096))), {Kind: 8},
	}
}

// noSpecs are updates that may not be, and why.
func noSpecs() map[api.Errno]api.Spec {
	return map[api.Errno]api.Spec{api.ErrOp: {}, api.ErrId: ops(unset("_id")), api.ErrConflict: ops(op(api.OpSet, "a", null), unset("a.b"))}
}

// P8.1: what each operator changes, and what it refuses.

// operated are operators, documents, and what the one changes in the other, or refuses.
func operated() []struct {
	v    api.Value
	o    api.Op
	want []api.Delta
	e    api.Errno
} {
	const least, most = math.MinInt, math.MaxInt
	var (
		list    = with(`"l":[5,"t",5,{"a":1,"b":2}]`)
		nested  = with(`"d":{"x":1,"l":[[1,2],{"k":3}]}`)
		numbers = doc(steps("_id", "n", "most", "least"), number(1), number(5), number(most), number(least))
		kinds   = with(`"n":null,"b":true,"t":"m","h":h"m","l":[2],"d":{"a":2}`)
	)
	return []struct {
		v    api.Value
		o    api.Op
		want []api.Delta
		e    api.Errno
	}{
		{list, op(api.OpSet, "a", number(1)), []api.Delta{set("a", number(1))}, api.OK},
		{list, op(api.OpSet, "l", of(`[5,"t",5,{"a":1,"b":2}]`)), nil, api.OK},
		{list, op(api.OpSet, "l.0", number(5)), nil, api.OK},
		{list, op(api.OpSet, "l.0", number(6)), []api.Delta{set("l.0", number(6))}, api.OK},
		{list, op(api.OpSet, "l.4", number(5)), []api.Delta{set("l.4", number(5))}, api.OK},
		{list, op(api.OpSet, "l.3", of(`{"b":2,"a":1}`)), []api.Delta{set("l.3", of(`{"b":2,"a":1}`))}, api.OK},
		{list, op(api.OpSet, "l.3.c.d", null), []api.Delta{set("l.3.c.d", null)}, api.OK},
		{list, op(api.OpSet, "l.5", null), []api.Delta{set("l.5", null)}, api.OK},
		{list, op(api.OpSet, "l.x", null), []api.Delta{set("l.x", null)}, api.OK},
		{kinds, op(api.OpSet, "n", null), nil, api.OK},
		{kinds, op(api.OpSet, "t", sample.Bytes("m")), []api.Delta{set("t", sample.Bytes("m"))}, api.OK},
		{kinds, op(api.OpSet, "b", number(1)), []api.Delta{set("b", number(1))}, api.OK},

		{list, unset("a"), nil, api.OK},
		{list, unset("l.4"), nil, api.OK},
		{list, unset("l.x.y"), nil, api.OK},
		{list, unset("l"), []api.Delta{drop("l")}, api.OK},
		{list, unset("l.0"), []api.Delta{drop("l.0")}, api.OK},
		{list, unset("l.3.b"), []api.Delta{drop("l.3.b")}, api.OK},
		{kinds, unset("n"), []api.Delta{drop("n")}, api.OK},

		{numbers, op(api.OpInc, "a.b", number(7)), []api.Delta{set("a.b", number(7))}, api.OK},
		{numbers, op(api.OpInc, "n.b", number(7)), []api.Delta{set("n.b", number(7))}, api.OK},
		{numbers, op(api.OpInc, "n", number(7)), []api.Delta{set("n", number(12))}, api.OK},
		{numbers, op(api.OpInc, "n", number(-5)), []api.Delta{set("n", number(0))}, api.OK},
		{numbers, op(api.OpInc, "n", number(0)), []api.Delta{set("n", number(5))}, api.OK},
		{numbers, op(api.OpInc, "n", number(most-5)), []api.Delta{set("n", number(most))}, api.OK},
		{numbers, op(api.OpInc, "n", number(most-4)), nil, api.ErrOver},
		{numbers, op(api.OpInc, "n", number(most)), nil, api.ErrOver},
		{numbers, op(api.OpInc, "n", number(least)), []api.Delta{set("n", number(least+5))}, api.OK},
		{numbers, op(api.OpInc, "most", number(0)), []api.Delta{set("most", number(most))}, api.OK},
		{numbers, op(api.OpInc, "most", number(1)), nil, api.ErrOver},
		{numbers, op(api.OpInc, "most", number(most)), nil, api.ErrOver},
		{numbers, op(api.OpInc, "most", number(-1)), []api.Delta{set("most", number(most-1))}, api.OK},
		{numbers, op(api.OpInc, "most", number(least)), []api.Delta{set("most", number(-1))}, api.OK},
		{numbers, op(api.OpInc, "least", number(0)), []api.Delta{set("least", number(least))}, api.OK},
		{numbers, op(api.OpInc, "least", number(-1)), nil, api.ErrOver},
		{numbers, op(api.OpInc, "least", number(least)), nil, api.ErrOver},
		{numbers, op(api.OpInc, "least", number(1)), []api.Delta{set("least", number(least+1))}, api.OK},
		{numbers, op(api.OpInc, "least", number(most)), []api.Delta{set("least", number(-1))}, api.OK},
		{list, op(api.OpInc, "l.0", number(1)), []api.Delta{set("l.0", number(6))}, api.OK},
		{list, op(api.OpInc, "l.1", number(1)), nil, api.ErrType},
		{kinds, op(api.OpInc, "n", number(1)), nil, api.ErrType},
		{kinds, op(api.OpInc, "b", number(1)), nil, api.ErrType},
		{kinds, op(api.OpInc, "t", number(1)), nil, api.ErrType},
		{kinds, op(api.OpInc, "h", number(0)), nil, api.ErrType},
		{kinds, op(api.OpInc, "l", number(1)), nil, api.ErrType},
		{kinds, op(api.OpInc, "d", number(1)), nil, api.ErrType},

		{list, op(api.OpPush, "a", text("x")), []api.Delta{set("a", of(`["x"]`))}, api.OK},
		{list, op(api.OpPush, "a.b", array()), []api.Delta{set("a.b", of(`[[]]`))}, api.OK},
		{list, op(api.OpPush, "l", text("x")), []api.Delta{set("l.4", text("x"))}, api.OK},
		{list, op(api.OpPush, "l.4", text("x")), []api.Delta{set("l.4", of(`["x"]`))}, api.OK},
		{list, op(api.OpPush, "l.9.z", text("x")), []api.Delta{set("l.9.z", of(`["x"]`))}, api.OK},
		{nested, op(api.OpPush, "d.l", number(4)), []api.Delta{set("d.l.2", number(4))}, api.OK},
		{nested, op(api.OpPush, "d.l.0", number(4)), []api.Delta{set("d.l.0.2", number(4))}, api.OK},
		{with(`"l":[]`), op(api.OpPush, "l", null), []api.Delta{set("l.0", null)}, api.OK},
		{of(`{"_id":1,"a":{"b":{"c":{"d":{"e":{"f":[]}}}}}}`), op(api.OpPush, "a.b.c.d.e.f", null), []api.Delta{set("a.b.c.d.e.f.0", null)}, api.OK},
		{list, op(api.OpPush, "a", deep(6)), []api.Delta{set("a", deep(7))}, api.OK},
		{list, op(api.OpPush, "a", deep(7)), nil, api.ErrDepth},
		{list, op(api.OpPush, "l", deep(7)), []api.Delta{set("l.4", deep(7))}, api.OK},
		{list, op(api.OpPush, "a", text(letters(4091))), []api.Delta{set("a", array(text(letters(4091))))}, api.OK},
		{list, op(api.OpPush, "a", text(letters(4092))), nil, api.ErrSize},
		{list, op(api.OpPush, "a", text(letters(4093))), nil, api.ErrSize},
		{list, op(api.OpPush, "a", array(deep(6), text(letters(4000)), text(letters(76)))), nil, api.ErrDepth},
		{list, op(api.OpPush, "l", text(letters(4093))), []api.Delta{set("l.4", text(letters(4093)))}, api.OK},
		{doc(steps("_id", "l"), number(1), nulls(998)), op(api.OpPush, "l", null), []api.Delta{set("l.998", null)}, api.OK},
		{doc(steps("_id", "l"), number(1), nulls(999)), op(api.OpPush, "l", null), []api.Delta{set("l.999", null)}, api.OK},
		{doc(steps("_id", "l"), number(1), nulls(1000)), op(api.OpPush, "l", null), nil, api.ErrLong},
		{doc(steps("_id", "l"), number(1), nulls(2000)), op(api.OpPush, "l", null), nil, api.ErrLong},
		{kinds, op(api.OpPush, "n", number(1)), nil, api.ErrType},
		{kinds, op(api.OpPush, "b", number(1)), nil, api.ErrType},
		{kinds, op(api.OpPush, "t", number(1)), nil, api.ErrType},
		{kinds, op(api.OpPush, "d", number(1)), nil, api.ErrType},
		{kinds, op(api.OpPush, "d", deep(7)), nil, api.ErrType},
		{doc(steps("_id", "d"), number(1), wide(1000)), op(api.OpPush, "d", null), nil, api.ErrType},

		{list, op(api.OpPull, "a", number(5)), nil, api.OK},
		{list, op(api.OpPull, "l", number(5)), []api.Delta{set("l", of(`["t",{"a":1,"b":2}]`))}, api.OK},
		{list, op(api.OpPull, "l", text("t")), []api.Delta{set("l", of(`[5,5,{"a":1,"b":2}]`))}, api.OK},
		{list, op(api.OpPull, "l", of(`{"a":1,"b":2}`)), []api.Delta{set("l", of(`[5,"t",5]`))}, api.OK},
		{list, op(api.OpPull, "l", of(`{"b":2,"a":1}`)), nil, api.OK},
		{list, op(api.OpPull, "l", number(6)), nil, api.OK},
		{list, op(api.OpPull, "l", sample.Bytes("t")), nil, api.OK},
		{list, op(api.OpPull, "l.7.x", number(5)), nil, api.OK},
		{list, op(api.OpPull, "l.0", number(5)), nil, api.ErrType},
		{nested, op(api.OpPull, "d.l.0", number(2)), []api.Delta{set("d.l.0", of(`[1]`))}, api.OK},
		{nested, op(api.OpPull, "d.l", of(`[1,2]`)), []api.Delta{set("d.l", of(`[{"k":3}]`))}, api.OK},
		{with(`"l":[]`), op(api.OpPull, "l", null), nil, api.OK},
		{with(`"l":[1,1]`), op(api.OpPull, "l", number(1)), []api.Delta{set("l", array())}, api.OK},
		{doc(steps("_id", "l"), number(1), nulls(4000)), op(api.OpPull, "l", null), []api.Delta{set("l", array())}, api.OK},
		{kinds, op(api.OpPull, "n", null), nil, api.ErrType},
		{kinds, op(api.OpPull, "t", text("m")), nil, api.ErrType},
		{kinds, op(api.OpPull, "d", number(2)), nil, api.ErrType},

		{list, rename("a", "b"), nil, api.OK},
		{list, rename("a.x", "l.x"), nil, api.OK},
		{list, rename("l.9", "b"), nil, api.OK},
		{list, rename("l", "b"), []api.Delta{drop("l"), set("b", list.Items[1])}, api.OK},
		{list, rename("l.0", "b"), nil, api.ErrPath},
		{list, rename("l.3", "b"), nil, api.ErrPath},
		{list, rename("l.3.b", "b"), []api.Delta{drop("l.3.b"), set("b", number(2))}, api.OK},
		{list, rename("l.3.b", "l.3.c"), []api.Delta{drop("l.3.b"), set("l.3.c", number(2))}, api.OK},
		{nested, rename("d.x", "d.y.z"), []api.Delta{drop("d.x"), set("d.y.z", number(1))}, api.OK},
		{nested, rename("d.x", "d.l"), []api.Delta{drop("d.x"), set("d.l", number(1))}, api.OK},
		{nested, rename("d.x", "d.l.2"), []api.Delta{drop("d.x"), set("d.l.2", number(1))}, api.OK},
		{nested, rename("d.x", "d.l.k"), []api.Delta{drop("d.x"), set("d.l.k", number(1))}, api.OK},
		{nested, rename("d.l.0.1", "b"), nil, api.ErrPath},
		{nested, rename("d.l.1.k", "b"), []api.Delta{drop("d.l.1.k"), set("b", number(3))}, api.OK},
		{with(`"0":7,"a":{"0":8}`), rename("0", "b"), []api.Delta{drop("0"), set("b", number(7))}, api.OK},
		{with(`"0":7,"a":{"0":8}`), rename("a.0", "b"), []api.Delta{drop("a.0"), set("b", number(8))}, api.OK},
		{kinds, rename("n", "m"), []api.Delta{drop("n"), set("m", null)}, api.OK},

		{numbers, op(api.OpMin, "a", number(5)), []api.Delta{set("a", number(5))}, api.OK},
		{numbers, op(api.OpMin, "n", number(5)), nil, api.OK},
		{numbers, op(api.OpMin, "n", number(6)), nil, api.OK},
		{numbers, op(api.OpMin, "n", number(4)), []api.Delta{set("n", number(4))}, api.OK},
		{numbers, op(api.OpMin, "n", text("")), nil, api.OK},
		{numbers, op(api.OpMin, "n", null), []api.Delta{set("n", null)}, api.OK},
		{numbers, op(api.OpMin, "most", number(least)), []api.Delta{set("most", number(least))}, api.OK},
		{numbers, op(api.OpMin, "least", number(most)), nil, api.OK},
		{kinds, op(api.OpMin, "l", of(`[1,9]`)), []api.Delta{set("l", of(`[1,9]`))}, api.OK},
		{kinds, op(api.OpMin, "d", of(`{"b":1}`)), nil, api.OK},
		{kinds, op(api.OpMin, "n", null), nil, api.OK},

		{numbers, op(api.OpMax, "a", number(5)), []api.Delta{set("a", number(5))}, api.OK},
		{numbers, op(api.OpMax, "n", number(5)), nil, api.OK},
		{numbers, op(api.OpMax, "n", number(4)), nil, api.OK},
		{numbers, op(api.OpMax, "n", number(6)), []api.Delta{set("n", number(6))}, api.OK},
		{numbers, op(api.OpMax, "n", text("")), []api.Delta{set("n", text(""))}, api.OK},
		{numbers, op(api.OpMax, "n", null), nil, api.OK},
		{numbers, op(api.OpMax, "most", number(least)), nil, api.OK},
		{numbers, op(api.OpMax, "least", number(most)), []api.Delta{set("least", number(most))}, api.OK},
		{kinds, op(api.OpMax, "l", of(`[1,9]`)), nil, api.OK},
		{kinds, op(api.OpMax, "d", of(`{"b":1}`)), []api.Delta{set("d", of(`{"b":1}`))}, api.OK},
		{list, op(api.OpMax, "l.0", number(6)), []api.Delta{set("l.0", number(6))}, api.OK},
	}
}

func TestWhatEachOperatorChanges(t *testing.T) {
	for i, c := range operated() {
		got, e := update.Changes(c.v, ops(c.o))
		if e != c.e || !sameList(got, c.want) {
			t.Errorf("%d: Changes(%s, %s) = %s, %d, want %s, %d", i, show(c.v), show(c.o), show(got), e, show(c.want), c.e)
		}
	}
}

func TestChangesAreInOrder(t *testing.T) {
	v := with(`"a":1,"b":[1],"c":"x","d":{"e":2}`)
	for i, c := range []struct {
		s    api.Spec
		want []api.Delta
		e    api.Errno
	}{
		{ops(op(api.OpSet, "z", null), unset("a"), rename("c", "y"), op(api.OpSet, "d.e", number(2)), op(api.OpPush, "b", number(2))), []api.Delta{set("z", null), drop("a"), drop("c"), set("y", text("x")), set("b.1", number(2))}, api.OK},
		{ops(rename("d", "y"), op(api.OpMax, "a", number(3)), unset("b.0"), unset("q")), []api.Delta{drop("d"), set("y", of(`{"e":2}`)), set("a", number(3)), drop("b.0")}, api.OK},
		{ops(unset("q"), unset("r.s"), op(api.OpSet, "a", number(1))), nil, api.OK},
		// Each looks at the document that was there, whatever the others do.
		{ops(op(api.OpSet, "b.1", null), op(api.OpSet, "b.2", null)), []api.Delta{set("b.1", null), set("b.2", null)}, api.OK},
		{ops(op(api.OpSet, "n.a", null), op(api.OpPush, "n.b", null)), []api.Delta{set("n.a", null), set("n.b", array(null))}, api.OK},
		{ops(op(api.OpSet, "n.0", null), rename("b.0", "n.1")), nil, api.ErrPath},
		// The first one that refuses is told of, whatever comes behind.
		{ops(op(api.OpInc, "a", number(math.MaxInt)), op(api.OpInc, "c", number(1))), nil, api.ErrOver},
		{ops(op(api.OpInc, "c", number(1)), op(api.OpInc, "a", number(math.MaxInt))), nil, api.ErrType},
		{ops(unset("a"), rename("b.0", "z"), op(api.OpPush, "c", null)), nil, api.ErrPath},
		{ops(op(api.OpSet, "z", null), op(api.OpPush, "y", deep(7)), rename("b.0", "x")), nil, api.ErrDepth},
		{ops(op(api.OpSet, "z", null), op(api.OpPull, "c", null), op(api.OpPush, "y", deep(7))), nil, api.ErrType},
	} {
		if got, e := update.Changes(v, c.s); e != c.e || !sameList(got, c.want) {
			t.Errorf("%d: Changes(.., %s) = %s, %d, want %s, %d", i, show(c.s), show(got), e, show(c.want), c.e)
		}
	}
}

func TestReplacements(t *testing.T) {
	for i, c := range []struct {
		v, doc api.Value
		want   []api.Delta
	}{
		{of(`{"_id":1}`), doc(nil), nil},
		{with(`"a":1`), of(`{"a":1}`), nil},
		{with(`"a":1`), doc(nil), []api.Delta{drop("a")}},
		{of(`{"_id":1}`), of(`{"b":1,"a":null}`), []api.Delta{set("b", number(1)), set("a", null)}},
		{of(`{"c":1,"_id":1,"a":2,"b":3}`), doc(nil), []api.Delta{drop("c"), drop("a"), drop("b")}},
		{with(`"a":1,"b":2,"c":3`), of(`{"c":3,"a":0,"d":4}`), []api.Delta{drop("b"), set("a", number(0)), set("d", number(4))}},
		{with(`"a":1,"b":2`), of(`{"b":2,"a":1}`), nil},
		{of(`{"a":1,"_id":1}`), of(`{"a":1}`), nil},
		{of(`{"a":1,"_id":1}`), of(`{"a":2}`), []api.Delta{set("a", number(2))}},
		{with(`"a":{"x":1,"y":2}`), of(`{"a":{"x":1,"y":3}}`), []api.Delta{set("a", of(`{"x":1,"y":3}`))}},
		{with(`"a":{"x":1,"y":2}`), of(`{"a":{"y":2,"x":1}}`), []api.Delta{set("a", of(`{"y":2,"x":1}`))}},
		{with(`"a":[1,2,3]`), of(`{"a":[1,2]}`), []api.Delta{set("a", of(`[1,2]`))}},
		{with(`"a":[1,[2]]`), of(`{"a":[1,[2]]}`), nil},
		{with(`"a":"x"`), of(`{"a":h"x"}`), []api.Delta{set("a", sample.Bytes("x"))}},
		{of(`{"_id":{"a":1},"a":1}`), of(`{"b":1,"_ID":2}`), []api.Delta{drop("a"), set("b", number(1)), set("_ID", number(2))}},
		{numbered(64, 0), doc(nil), changesOf(64, func(i int) api.Delta { return drop("n" + strconv.Itoa(i)) })},
		{numbered(64, 0), rest(numbered(64, 1)), changesOf(64, func(i int) api.Delta { return set("n"+strconv.Itoa(i), number(i+1)) })},
		{numbered(100, 0), rest(numbered(164, 0)), changesOf(64, func(i int) api.Delta { return set("n"+strconv.Itoa(i+100), number(i+100)) })},
	} {
		got, e := update.Changes(c.v, replace(c.doc))
		if e != api.OK || !sameList(got, c.want) {
			t.Errorf("%d: Changes(%s, %s) = %s, %d, want %s", i, show(c.v), show(c.doc), show(got), e, show(c.want))
		}
	}
	for i, pair := range [][2]api.Value{{numbered(65, 0), doc(nil)}, {one("_id", null), rest(numbered(65, 0))}, {numbered(65, 0), rest(numbered(65, 1))}, {numbered(32, 0), one("m", null)}, {numbered(64, 0), one("m", null)}, {numbered(500, 0), rest(numbered(500, 1))}} {
		want := api.ErrLong
		if i == 3 {
			want = api.OK
		}
		l, e := update.Changes(pair[0], replace(pair[1]))
		v, m, ae := update.Apply(pair[0], replace(pair[1]))
		if e != want || ae != want || e != api.OK && len(l)+len(m) != 0 || e != api.OK && !none(v) {
			t.Errorf("%d: too many changes: %s, %d, %s, %d", i, show(l), e, show(v), ae)
		}
	}
}

// changesOf are n changes.
func changesOf(n int, change func(i int) api.Delta) []api.Delta {
	var l []api.Delta
	for i := range n {
		l = append(l, change(i))
	}
	return l
}

func TestWhatIsRefusedFirst(t *testing.T) {
	refusing := ops(op(api.OpInc, "t", number(1)))
	for _, v := range noDocs() {
		specs := []api.Spec{ops(unset("a")), replace(doc(nil)), refusing}
		for _, s := range noSpecs() {
			specs = append(specs, s)
		}
		for _, s := range specs {
			l, e := update.Changes(v, s)
			w, m, ae := update.Apply(v, s)
			if e != api.ErrValue || len(l) != 0 || ae != api.ErrValue || len(m) != 0 || !none(w) {
				t.Errorf("%s of %s: %d, %d", show(s), show(v), e, ae)
			}
		}
	}
	v := with(`"t":"x"`)
	for want, s := range noSpecs() {
		s.Ops = append(slices.Clone(s.Ops), refusing.Ops...)
		if want == api.ErrOp {
			s.Ops = append(s.Ops, api.Op{})
		}
		l, e := update.Changes(v, s)
		w, m, ae := update.Apply(v, s)
		if e != want || len(l) != 0 || ae != want || len(m) != 0 || !none(w) {
			t.Errorf("%s: %d, %d, want %d", show(s), e, ae, want)
		}
	}
	for _, s := range []api.Spec{replace(one("_id", null)), {Replace: true, Doc: doc(nil), Ops: refusing.Ops}, {Doc: doc(nil), Ops: refusing.Ops}} {
		if _, e := update.Changes(v, s); e != spec.Check(s) || e == api.OK {
			t.Errorf("%s: %d", show(s), e)
		}
	}
}

// P8.2: Apply.

func TestApply(t *testing.T) {
	v := with(`"a":1,"b":[1,2,1],"c":{"d":"x"}`)
	for i, c := range []struct {
		v    api.Value
		s    api.Spec
		want string
	}{
		{v, ops(op(api.OpSet, "a", null)), `{"_id":1,"a":null,"b":[1,2,1],"c":{"d":"x"}}`},
		{v, ops(op(api.OpSet, "e.f", null), unset("a")), `{"_id":1,"b":[1,2,1],"c":{"d":"x"},"e":{"f":null}}`},
		{v, ops(op(api.OpPush, "b", number(3)), op(api.OpInc, "a", number(-2))), `{"_id":1,"a":-1,"b":[1,2,1,3],"c":{"d":"x"}}`},
		{v, ops(op(api.OpPull, "b", number(1)), op(api.OpMin, "c.d", text("w"))), `{"_id":1,"a":1,"b":[2],"c":{"d":"w"}}`},
		{v, ops(rename("c.d", "a")), `{"_id":1,"a":"x","b":[1,2,1],"c":{}}`},
		{v, ops(rename("a", "c.e"), rename("b", "g.h")), `{"_id":1,"c":{"d":"x","e":1},"g":{"h":[1,2,1]}}`},
		{v, ops(unset("b.1"), op(api.OpSet, "b.3", null)), `{"_id":1,"a":1,"b":[1,null,1,null],"c":{"d":"x"}}`},
		{v, ops(rename("a", "b.3")), `{"_id":1,"b":[1,2,1,1],"c":{"d":"x"}}`},
		{v, ops(op(api.OpSet, "b.3", null), op(api.OpSet, "b.4", null)), `{"_id":1,"a":1,"b":[1,2,1,null,null],"c":{"d":"x"}}`},
		{v, ops(unset("q"), op(api.OpMax, "a", number(0))), `{"_id":1,"a":1,"b":[1,2,1],"c":{"d":"x"}}`},
		{v, replace(of(`{"c":{"d":"x"},"e":0,"a":2}`)), `{"_id":1,"a":2,"c":{"d":"x"},"e":0}`},
		{v, replace(doc(nil)), `{"_id":1}`},
		{of(`{"a":1,"_id":[1],"b":2}`), replace(of(`{"z":1}`)), `{"_id":[1],"z":1}`},
		{of(`{"_id":1}`), ops(op(api.OpPush, "l", text("x"))), `{"_id":1,"l":["x"]}`},
		{of(`{"_id":1,"l":["x"]}`), ops(op(api.OpPush, "l", text("x"))), `{"_id":1,"l":["x","x"]}`},
	} {
		got, l, e := update.Apply(c.v, c.s)
		want, _ := update.Changes(c.v, c.s)
		if e != api.OK || !alike(got, of(c.want)) || !sameList(l, want) {
			t.Errorf("%d: Apply(%s, %s) = %s, %s, %d", i, show(c.v), show(c.s), show(got), show(l), e)
		}
	}
}

func TestApplyRefuses(t *testing.T) {
	within := func(x api.Value) api.Value { return sample.Within(x, "a", "b", "c", "d", "e", "f") }
	deepest := doc(steps("_id", "a"), number(1), within(number(1)).Items[0])
	// A document of the size 13 and as many as the letters of its text t.
	sized := func(n int) api.Value { return doc(steps("_id", "t"), number(1), text(letters(n))) }
	for i, c := range []struct {
		v api.Value
		s api.Spec
		e api.Errno
	}{
		// The changes are refused just when they are done.
		{with(`"a":1`), ops(op(api.OpSet, "a.b", null)), api.ErrPath},
		{with(`"a":1`), ops(op(api.OpSet, "z", null), op(api.OpInc, "a.b", number(1))), api.ErrPath},
		{with(`"a":[1]`), ops(op(api.OpSet, "a.2", null)), api.ErrPath},
		{with(`"a":[1]`), ops(op(api.OpSet, "a.x", null)), api.ErrPath},
		{with(`"a":[1]`), ops(op(api.OpPush, "a.3", null)), api.ErrPath},
		{with(`"a":[1],"b":2`), ops(rename("b", "a.5")), api.ErrPath},
		{with(`"a":[1],"b":2`), ops(op(api.OpSet, "a.2", null), op(api.OpSet, "a.1", null)), api.ErrPath},
		{with(`"a":1`), ops(op(api.OpSet, "b", deep(7)), op(api.OpSet, "a.b", null)), api.ErrPath},
		// The document behind them is too deep, or too large.
		{deepest, ops(op(api.OpSet, "a.b.c.d.e.f", array())), api.OK},
		{deepest, ops(op(api.OpSet, "a.b.c.d.e.f", array(null))), api.OK},
		{deepest, ops(op(api.OpSet, "a.b.c.d.e.f", deep(2))), api.ErrDepth},
		{with(`"a":1`), ops(op(api.OpSet, "b", deep(6))), api.OK},
		{with(`"a":1`), ops(op(api.OpSet, "b", deep(7))), api.ErrDepth},
		{with(`"a":1`), ops(op(api.OpSet, "b.c.d.e.f.g.h", null)), api.OK},
		{with(`"a":1`), ops(op(api.OpSet, "b.c.d.e.f.g.h.i", null)), api.ErrDepth},
		{with(`"a":[]`), ops(op(api.OpPush, "a", deep(6))), api.ErrDepth},
		{with(`"a":[]`), ops(op(api.OpPush, "a", deep(5))), api.OK},
		{with(`"a":1`), ops(op(api.OpSet, "b", array(deep(6), text(letters(4070))))), api.ErrDepth},
		{with(`"a":1`), replace(one("b", deep(6))), api.OK},
		{sized(4080), ops(op(api.OpSet, "b", null)), api.OK},
		{sized(4081), ops(op(api.OpSet, "b", null)), api.ErrSize},
		{sized(4083), ops(op(api.OpSet, "b", null), unset("t")), api.OK},
		{sized(4083), ops(op(api.OpSet, "t", text(letters(4084)))), api.ErrSize},
		{one("_id", text(letters(4000))), replace(one("a", text(letters(80)))), api.OK},
		{one("_id", text(letters(4000))), replace(one("a", text(letters(90)))), api.ErrSize},
	} {
		if _, e := update.Changes(c.v, c.s); e != api.OK {
			t.Errorf("%d: Changes(%s, %s): %d", i, show(c.v), show(c.s), e)
		}
		v, l, e := update.Apply(c.v, c.s)
		if e != c.e || e != api.OK && (!none(v) || len(l) != 0) {
			t.Errorf("%d: Apply(%s, %s) = %s, %s, %d, want %d", i, show(c.v), show(c.s), show(v), show(l), e, c.e)
		}
		if e == api.OK && value.Check(v) != api.OK {
			t.Errorf("%d: Apply answers a document that is not whole", i)
		}
	}
	for i, c := range operated() {
		if v, l, e := update.Apply(c.v, ops(c.o)); c.e != api.OK && (e != c.e || !none(v) || len(l) != 0) {
			t.Errorf("%d: Apply(%s, %s) = %s, %s, %d, want %d", i, show(c.v), show(c.o), show(v), show(l), e, c.e)
		}
	}
}

// P8.3: Upsert.

func TestUpsert(t *testing.T) {
	for i, c := range []struct {
		id   api.Value
		s    api.Spec
		want api.Value
		e    api.Errno
	}{
		{number(7), ops(op(api.OpSet, "a.b", null)), of(`{"_id":7,"a":{"b":null}}`), api.OK},
		{of(`{"k":[1]}`), ops(op(api.OpPush, "l", null), op(api.OpInc, "n", number(3)), op(api.OpMin, "m", text("x")), op(api.OpMax, "o", null)), of(`{"_id":{"k":[1]},"l":[null],"n":3,"m":"x","o":null}`), api.OK},
		{null, ops(unset("a"), op(api.OpPull, "b", null), rename("c", "d")), of(`{"_id":null}`), api.OK},
		{text("k"), replace(of(`{"b":1,"a":{"_id":2}}`)), of(`{"_id":"k","b":1,"a":{"_id":2}}`), api.OK},
		{text("k"), replace(doc(nil)), of(`{"_id":"k"}`), api.OK},
		{deep(6), ops(unset("a")), one("_id", deep(6)), api.OK},
		{text(letters(4087)), ops(unset("a")), one("_id", text(letters(4087))), api.OK},
		{api.Value{}, ops(unset("a")), api.Value{}, api.ErrValue},
		{api.Value{Kind: 8}, ops(), api.Value{}, api.ErrValue},
		{array(api.Value{}), ops(unset("a")), api.Value{}, api.ErrValue},
		{deep(8), ops(unset("a")), api.Value{}, api.ErrValue},
		{deep(8), ops(), api.Value{}, api.ErrValue},
		{text(letters(4094)), ops(unset("a")), api.Value{}, api.ErrValue},
		// Whole, but not within a document any more.
		{deep(7), ops(unset("a")), api.Value{}, api.ErrValue},
		{deep(7), ops(), api.Value{}, api.ErrValue},
		{text(letters(4088)), ops(unset("a")), api.Value{}, api.ErrValue},
		{number(1), ops(), api.Value{}, api.ErrOp},
		{number(1), ops(op(api.OpSet, "_id", number(1))), api.Value{}, api.ErrId},
		{number(1), replace(one("_id", number(1))), api.Value{}, api.ErrId},
		{number(1), ops(unset("a"), unset("a.b")), api.Value{}, api.ErrConflict},
		{number(1), ops(op(api.OpPush, "a", deep(7))), api.Value{}, api.ErrDepth},
		{number(1), ops(op(api.OpSet, "a", deep(7))), api.Value{}, api.ErrDepth},
		{number(1), ops(op(api.OpSet, "a", text(letters(4090)))), api.Value{}, api.ErrSize},
		{number(1), replace(rest(numbered(65, 0))), api.Value{}, api.ErrLong},
	} {
		if got, e := update.Upsert(c.id, c.s); e != c.e || !alike(got, c.want) {
			t.Errorf("%d: Upsert(%s, %s) = %s, %d, want %s, %d", i, show(c.id), show(c.s), show(got), e, show(c.want), c.e)
		}
	}
}

// What is handed in is not changed and not kept; what is answered is new memory.

func TestNothingIsChangedAndAnswersAreNewMemory(t *testing.T) {
	v := with(`"a":[1,[2],3,[2]],"b":{"c":[null],"d":{"e":[4]}},"f":5`)
	for _, was := range []api.Spec{
		ops(op(api.OpSet, "a.1", of(`[7,[8]]`)), rename("b.d", "g.h"), op(api.OpInc, "f", number(1)), op(api.OpPush, "b.c", of(`{"x":[1]}`)), op(api.OpPush, "l", of(`[[1]]`))),
		ops(op(api.OpPull, "a", of(`[2]`)), op(api.OpMin, "f", null), op(api.OpMax, "b", of(`{"y":{"z":[1]}}`)), unset("q"), op(api.OpSet, "r.s", of(`{"t":[0]}`))),
		ops(unset("a"), rename("b", "w")), ops(unset("q")), ops(op(api.OpInc, "a", number(1))),
		replace(of(`{"b":{"c":[null],"d":{"e":[5]}},"n":[[1],{"o":[2]}]}`)), replace(doc(nil)), {}, {Replace: true, Doc: one("a", array(null)), Ops: []api.Op{rename("a", "b")}},
	} {
		handed, s, id := sample.Roomy(v), sample.RoomySpec(was), sample.Roomy(of(`{"i":[1,[2]]}`))
		untouched := func() bool {
			return sample.Untouched(handed, v) && sample.UntouchedSpec(s, was) && sample.Untouched(id, of(`{"i":[1,[2]]}`))
		}
		call := func() (api.Value, []api.Delta, []api.Delta, api.Value) {
			made, l, _ := update.Apply(handed, s)
			same, _ := update.Changes(handed, s)
			put, _ := update.Upsert(id, s)
			return made, l, same, put
		}
		made, l, same, put := call()
		wantMade, want, wantPut := value.Clone(made), delta.Clone(l), value.Clone(put)
		if !untouched() {
			t.Fatalf("what was handed in is changed: %s", show(was))
		}
		otherMade, otherL, otherSame, otherPut := call()
		sample.Spoil(otherMade)
		if !sameList(otherL, want) {
			t.Fatalf("the changes are in the document: %s", show(was))
		}
		sample.SpoilDeltas(otherL)
		sample.SpoilDeltas(otherSame)
		sample.Spoil(otherPut)
		if !untouched() {
			t.Fatalf("an answer is memory that was handed in: %s", show(was))
		}
		sample.Spoil(handed)
		sample.SpoilSpec(s)
		sample.Spoil(id)
		if !alike(made, wantMade) || !sameList(l, want) || len(l) > 0 && !sameList(same, want) || !alike(put, wantPut) {
			t.Fatalf("an answer changes with what was handed in: %s", show(was))
		}
	}
}

func TestNoTwoListsOfAnAnswerAreOne(t *testing.T) {
	p, inner := steps("a", "b"), array(null)
	s := api.Spec{Ops: []api.Op{
		{Kind: api.OpSet, Path: p, Value: array(inner, inner)}, {Kind: api.OpSet, Path: steps("c"), Value: inner}, {Kind: api.OpPush, Path: steps("d"), Value: inner},
		{Kind: api.OpRename, Path: steps("e"), To: steps("f")}, {Kind: api.OpPull, Path: steps("g"), Value: null},
	}}
	v := doc(steps("_id", "e", "g"), inner, array(inner, inner), array(null, inner, inner))
	swap := replace(doc(steps("e", "h", "i"), inner, inner, array(inner, inner)))
	for _, s := range []api.Spec{s, swap} {
		_, l, e := update.Apply(v, s)
		if e != api.OK || len(l) < 4 {
			t.Fatal(l, e)
		}
		for i := range l {
			want := delta.Clone(l)
			first := api.Value{}
			if items := l[i].Value.Items; len(items) == 2 {
				first = items[0]
				sample.Spoil(items[1])
				if !alike(first, want[i].Value.Items[0]) {
					t.Error("two lists of a value are one:", first)
				}
			}
			sample.SpoilDeltas(l[i : i+1 : i+1])
			if !sameList(l[:i], want[:i]) || !sameList(l[i+1:], want[i+1:]) {
				t.Error("two lists of an answer are one:", l, want)
			}
			copy(l, want)
		}
	}
}
