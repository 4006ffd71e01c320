package spec_test

import (
	"fmt"
	"math"
	"slices"
	"strings"
	"testing"

	"tributary/api"
	"tributary/sample"
	"tributary/spec"
)

// The makers of values and updates, by short names.
var (
	null, number, text, bytes = sample.Null(), sample.Number, sample.Text, sample.Bytes
	array, doc, one, deep     = sample.Array, sample.Doc, sample.One, sample.Deep
	op, unset, rename         = sample.Op, sample.Unset, sample.Rename
	ops, replace, alike       = sample.Ops, sample.Replace, sample.AlikeSpecs
)

func steps(l ...string) []string { return l }

func letters(n int) string { return strings.Repeat("x", n) }

// show is how a failed test tells of what may be long.
func show(x any) string { return fmt.Sprintf("%.300s", fmt.Sprint(x)) }

// valued are the kinds of operators that have any whole value.
func valued() []int {
	return []int{api.OpSet, api.OpPush, api.OpPull, api.OpMin, api.OpMax}
}

// far is a path of as many steps as there may be, each but one as long as it may be.
var far = strings.Join(append(slices.Repeat(steps(letters(32)), 7), "0"), ".")

// good are operators that may be.
func good() []api.Op {
	l := []api.Op{
		op(api.OpInc, "a", number(0)), op(api.OpInc, "a.0", number(math.MinInt)), op(api.OpInc, far, number(math.MaxInt)),
		unset("a"), unset("a.b"), unset(far), unset("\xff.\x00"),
		rename("a", "b"), rename("a.b", "c.d.e"), rename(far, "b"), rename("b", far), rename("a.0", "a.1"),
		{Kind: api.OpUnset, Path: steps("a"), To: steps(), Value: api.Value{Items: []api.Value{}, Names: steps()}},
		{Kind: api.OpRename, Path: steps("a"), To: steps("b"), Value: api.Value{Items: []api.Value{}, Names: steps()}},
		{Kind: api.OpSet, Path: steps("a"), Value: null, To: steps()},
	}
	for _, kind := range valued() {
		for _, v := range []api.Value{null, number(-1), text(""), {Kind: api.KindBool, Int: 1}, bytes("\x00\xff"), array(), doc(nil), one("_id", null), one("a", array(text("t"))), deep(7), text(letters(4093))} {
			l = append(l, op(kind, "a", v))
		}
		l = append(l, op(kind, far, null))
	}
	return l
}

// wrong are operators that may not be.
func wrong() []api.Op {
	l := []api.Op{
		{}, {Path: steps("a")}, op(0, "a", null), op(9, "a", null), op(-1, "a", null), op(math.MaxInt, "a", null), op(9, "a", api.Value{}), {Kind: 9, Path: steps("a"), To: steps("b")},
		{Kind: api.OpRename, Path: steps("a")}, {Kind: api.OpRename, Path: steps("a"), To: steps("b"), Value: null}, {Kind: api.OpRename, To: steps("b")},
	}
	for _, v := range []api.Value{{}, null, text("1"), bytes("1"), {Kind: api.KindBool, Int: 1}, array(number(1)), one("a", number(1)), {Kind: api.KindInt, Text: "a"}, {Kind: api.KindInt, Items: []api.Value{null}}, {Kind: api.KindInt, Names: steps("a")}, {Int: 1}} {
		l = append(l, op(api.OpInc, "a", v))
	}
	for _, kind := range valued() {
		for _, v := range []api.Value{{}, {Kind: 8}, {Kind: api.KindBool, Int: 2}, deep(8), text(letters(4094)), array(api.Value{}), doc(steps("b", "b"), null, null), one("$", null)} {
			l = append(l, op(kind, "a", v))
		}
	}
	for _, v := range []api.Value{null, number(0), {Int: 1}, {Text: "a"}, {Items: []api.Value{{}}}, {Names: steps("")}, {Kind: -1}} {
		l = append(l, op(api.OpUnset, "a", v), api.Op{Kind: api.OpRename, Path: steps("a"), To: steps("b"), Value: v})
	}
	for _, o := range []api.Op{op(api.OpSet, "a", null), op(api.OpInc, "a", number(1)), op(api.OpPush, "a", null), op(api.OpPull, "a", null), op(api.OpMin, "a", null), op(api.OpMax, "a", null), unset("a"), rename("b", "c")} {
		for _, p := range [][]string{nil, {}, {""}, {"a", ""}, {"a.b"}, {"$"}, {letters(33)}, slices.Repeat(steps("a"), 9)} {
			other := o
			other.Path = p
			l = append(l, other)
			if o.Kind == api.OpRename {
				o.To = p
				l = append(l, o)
			}
		}
		if o.Kind != api.OpRename {
			for _, to := range [][]string{{"b"}, {""}, {"a", "b"}} {
				o.To = to
				l = append(l, o)
			}
		}
	}
	return l
}

// many are n operators at n paths.
func many(n int) []api.Op {
	var l []api.Op
	for i := range n {
		l = append(l, op(api.OpSet, fmt.Sprint("n", i), number(i)))
	}
	return l
}

// P7.1: May, Check, Places.

func TestMay(t *testing.T) {
	for _, o := range good() {
		if !spec.May(o) || spec.Check(ops(o)) != api.OK {
			t.Errorf("%s may be: %v, %d", show(o), spec.May(o), spec.Check(ops(o)))
		}
	}
	for _, o := range wrong() {
		for _, l := range [][]api.Op{{o}, {o, unset("z")}, {unset("y"), unset("_id"), o}, append(many(15), o), append(many(16), o)} {
			if spec.May(o) || spec.Check(ops(l...)) != api.ErrOp || len(spec.Places(ops(l...))) != 0 {
				t.Errorf("%s may not be: %v, %d, %q", show(o), spec.May(o), spec.Check(ops(l...)), spec.Places(ops(l...)))
			}
		}
	}
}

func TestCheckOfOperators(t *testing.T) {
	inc := func(p string) api.Op { return op(api.OpInc, p, number(1)) }
	sixteen := append(many(14), rename("a", "b"), rename("c", "d"))
	for i, c := range []struct {
		s    api.Spec
		want api.Errno
	}{
		{api.Spec{}, api.ErrOp},
		{api.Spec{Ops: []api.Op{}}, api.ErrOp},
		{ops(many(1)...), api.OK},
		{ops(many(16)...), api.OK},
		{ops(sixteen...), api.OK},
		{ops(many(17)...), api.ErrOp},
		{ops(append(many(16), unset("_id"))...), api.ErrOp},
		{ops(append(many(16), unset("n0"))...), api.ErrOp},
		{api.Spec{Doc: doc(nil), Ops: many(1)}, api.ErrOp},
		{api.Spec{Doc: doc(nil)}, api.ErrOp},
		{api.Spec{Doc: one("_id", null), Ops: []api.Op{unset("a")}}, api.ErrOp},
		{api.Spec{Doc: null, Ops: many(1)}, api.ErrOp},
		{api.Spec{Doc: api.Value{Int: 1}, Ops: many(1)}, api.ErrOp},
		{api.Spec{Doc: api.Value{Text: "a"}, Ops: many(1)}, api.ErrOp},
		{api.Spec{Doc: api.Value{Items: []api.Value{{}}}, Ops: many(1)}, api.ErrOp},
		{api.Spec{Doc: api.Value{Names: steps("_id")}, Ops: many(1)}, api.ErrOp},
		{api.Spec{Doc: api.Value{Items: []api.Value{}, Names: steps()}, Ops: many(1)}, api.OK},
		{ops(inc("_id")), api.ErrId},
		{ops(inc("_id.a")), api.ErrId},
		{ops(inc("a"), unset("b"), unset("_id")), api.ErrId},
		{ops(rename("_id", "a")), api.ErrId},
		{ops(rename("a", "_id")), api.ErrId},
		{ops(rename("a", "_id.b")), api.ErrId},
		{ops(rename("_id", "_id")), api.ErrId},
		{ops(inc("a"), inc("a"), inc("_id")), api.ErrId},
		{ops(inc("_id"), inc("_id.a")), api.ErrId},
		{ops(inc("a._id"), inc("_id2"), inc("_i"), inc("id"), rename("b._id", "_ID")), api.OK},
		{ops(inc("a"), inc("a")), api.ErrConflict},
		{ops(op(api.OpSet, "a", number(1)), unset("a.b")), api.ErrConflict},
		{ops(unset("a.b"), op(api.OpSet, "a", number(1))), api.ErrConflict},
		{ops(inc("a.b.c"), inc("d"), inc("a.b")), api.ErrConflict},
		{ops(inc("a.b"), inc("a.c"), inc("ab"), inc("b")), api.OK},
		{ops(inc("a.0"), inc("a.00"), inc("a.1")), api.OK},
		{ops(append(many(15), inc("n14"))...), api.ErrConflict},
		{ops(append(many(15), inc("n0.b"))...), api.ErrConflict},
		{ops(rename("a", "a")), api.ErrConflict},
		{ops(rename("a", "a.b")), api.ErrConflict},
		{ops(rename("a.b", "a")), api.ErrConflict},
		{ops(rename("a.b", "a.c")), api.OK},
		{ops(rename("a", "b"), rename("b", "c")), api.ErrConflict},
		{ops(rename("a", "b"), rename("c", "b")), api.ErrConflict},
		{ops(rename("a", "b"), rename("b", "a")), api.ErrConflict},
		{ops(rename("a", "b.c"), inc("b")), api.ErrConflict},
		{ops(inc("b"), rename("a", "b.c")), api.ErrConflict},
		{ops(rename("a", "b.c"), inc("b.d"), rename("d", "e")), api.OK},
	} {
		if e := spec.Check(c.s); e != c.want {
			t.Errorf("%d: Check(%s) = %d, want %d", i, show(c.s), e, c.want)
		}
	}
}

func TestCheckOfReplacements(t *testing.T) {
	for i, c := range []struct {
		s    api.Spec
		want api.Errno
	}{
		{replace(doc(nil)), api.OK},
		{replace(one("a", null)), api.OK},
		{replace(doc(steps("_id2", "id"), null, one("_id", null))), api.OK},
		{replace(one("a", deep(6))), api.OK},
		{replace(one("a", text(letters(4089)))), api.OK},
		{api.Spec{Replace: true, Doc: doc(nil), Ops: []api.Op{}}, api.OK},
		{replace(api.Value{}), api.ErrOp},
		{replace(null), api.ErrOp},
		{replace(array(one("a", null))), api.ErrOp},
		{replace(text("a")), api.ErrOp},
		{replace(doc(steps("a"))), api.ErrOp},
		{replace(doc(steps("a", "a"), null, null)), api.ErrOp},
		{replace(one("a", api.Value{})), api.ErrOp},
		{replace(one("_id", api.Value{})), api.ErrOp},
		{replace(one("a", deep(7))), api.ErrOp},
		{replace(one("_id", deep(7))), api.ErrOp},
		{replace(one("a", text(letters(4090)))), api.ErrOp},
		{replace(doc(steps("_id", "a"), null, text(letters(4090)))), api.ErrOp},
		{api.Spec{Replace: true, Doc: doc(nil), Ops: many(1)}, api.ErrOp},
		{api.Spec{Replace: true, Doc: doc(nil), Ops: []api.Op{{}}}, api.ErrOp},
		{api.Spec{Replace: true, Doc: one("_id", null), Ops: many(1)}, api.ErrOp},
		{api.Spec{Replace: true, Ops: many(1)}, api.ErrOp},
		{api.Spec{Replace: true, Doc: doc(nil), Ops: []api.Op{unset("_id"), unset("_id")}}, api.ErrOp},
		{replace(one("_id", null)), api.ErrId},
		{replace(doc(steps("a", "_id"), null, number(1))), api.ErrId},
	} {
		if e := spec.Check(c.s); e != c.want {
			t.Errorf("%d: Check(%s) = %d, want %d", i, show(c.s), e, c.want)
		}
	}
}

func samePlaces(a, b [][]string) bool {
	return slices.EqualFunc(a, b, func(p, q []string) bool { return slices.Equal(p, q) })
}

func TestPlaces(t *testing.T) {
	set := func(p string) api.Op { return op(api.OpSet, p, null) }
	for i, c := range []struct {
		s    api.Spec
		want [][]string
	}{
		{api.Spec{}, nil},
		{ops(set("a")), [][]string{{"a"}}},
		{ops(set("b.c"), unset("a")), [][]string{{"b", "c"}, {"a"}}},
		{ops(rename("b", "a.c")), [][]string{{"b"}, {"a", "c"}}},
		{ops(set("z"), rename("y", "x"), unset("w"), rename("v.0", "u"), op(api.OpInc, "t", number(1))), [][]string{{"z"}, {"y"}, {"x"}, {"w"}, {"v", "0"}, {"u"}, {"t"}}},
		{ops(set("a"), set("a"), rename("a", "a")), [][]string{{"a"}, {"a"}, {"a"}, {"a"}}},
		{ops(set("_id"), rename("a", "_id.b")), [][]string{{"_id"}, {"a"}, {"_id", "b"}}},
		{replace(doc(nil)), nil},
		{replace(one("a", null)), nil},
	} {
		if got := spec.Places(c.s); !samePlaces(got, c.want) {
			t.Errorf("%d: Places(%s) = %q, want %q", i, show(c.s), got, c.want)
		}
	}
	for _, n := range []int{16, 17, 100} {
		got := spec.Places(ops(many(n)...))
		if len(got) != n || !slices.Equal(got[n-1], steps(fmt.Sprint("n", n-1))) {
			t.Errorf("Places of %d: %q", n, got)
		}
	}
}

// meet tells whether one of the texts of paths begins the other one, step by step.
func meet(a, b string) bool {
	return strings.HasPrefix(a+".", b+".") || strings.HasPrefix(b+".", a+".")
}

func TestCheckAgainstTheWords(t *testing.T) {
	paths := steps("a", "ab", "a.b", "a.b.c", "a.c", "b", "_id", "a._id")
	var of []api.Op
	for _, p := range paths {
		of = append(of, unset(p))
	}
	for _, p := range []string{"b", "c", "_id.a"} {
		of = append(of, rename("a", p), rename(p, "a.b"))
	}
	found := map[api.Errno]int{}
	var try func(l []api.Op, left int)
	try = func(l []api.Op, left int) {
		want, at := api.OK, steps()
		for _, o := range l {
			for _, p := range [][]string{o.Path, o.To} {
				if len(p) > 0 {
					at = append(at, strings.Join(p, "."))
				}
			}
		}
		for i, p := range at {
			if slices.ContainsFunc(at[:i], func(q string) bool { return meet(p, q) }) {
				want = api.ErrConflict
			}
		}
		if slices.ContainsFunc(at, func(p string) bool { return meet("_id", p) }) {
			want = api.ErrId
		}
		if len(l) == 0 {
			want = api.ErrOp
		}
		found[want]++
		if e := spec.Check(ops(l...)); e != want {
			t.Fatalf("Check(%v) = %d, want %d", l, e, want)
		}
		for _, o := range of {
			if left > 0 {
				try(append(slices.Clone(l), o), left-1)
			}
		}
	}
	try(nil, 3)
	if len(found) != 4 || found[api.OK] < 100 {
		t.Error("just so many:", found)
	}
}

// What is handed in is not changed and not kept; what is answered is new memory.

// updates are updates that may be, and some that may not.
func updates() []api.Spec {
	return []api.Spec{
		{}, ops(many(16)...), ops(rename("a.b", "c.d"), op(api.OpSet, "e", array(null, one("f", null))), unset("g")), ops(op(api.OpSet, "a", array(null)), unset("a")),
		replace(doc(steps("a", "b"), array(null, null), one("c", null))), replace(one("_id", null)), {Replace: true, Doc: one("a", array(null)), Ops: many(2)}, ops(wrong()...),
	}
}

func TestNothingIsChangedAndAnswersAreNewMemory(t *testing.T) {
	for _, was := range updates() {
		s, room := sample.RoomySpec(was), []byte{9, 8, 7, 6, 5}
		for _, o := range s.Ops {
			spec.May(o)
		}
		spec.Check(s)
		placed, code := spec.Places(s), spec.Put(room[:2], s)
		want, wantCode := spec.Places(was), slices.Clone(code)
		for _, p := range spec.Places(s) {
			clear(p[:cap(p)])
		}
		other := spec.Put(room[:2], s)
		clear(other[:cap(other)])
		if !sample.UntouchedSpec(s, was) || !slices.Equal(room, []byte{9, 8, 7, 6, 5}) {
			t.Fatalf("what was handed in is changed: %s", show(was))
		}
		sample.SpoilSpec(s)
		clear(room)
		if !samePlaces(placed, want) || !slices.Equal(code, wantCode) {
			t.Fatalf("an answer changes with what was handed in: %s", show(was))
		}
	}
}

func TestNoTwoPlacesAreOne(t *testing.T) {
	p := steps("a", "b")
	got := spec.Places(ops(api.Op{Kind: api.OpRename, Path: p, To: p}, api.Op{Kind: api.OpUnset, Path: p}))
	for i := range got {
		got[i][0] = fmt.Sprint(i)
		_ = append(got[i], "behind")
	}
	if !samePlaces(got, [][]string{{"0", "b"}, {"1", "b"}, {"2", "b"}}) || p[0] != "a" {
		t.Errorf("two lists are one: %q, %q", got, p)
	}
}
