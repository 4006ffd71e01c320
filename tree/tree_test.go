package tree_test

import (
	"fmt"
	"math"
	"slices"
	"strconv"
	"strings"
	"testing"

	"tributary/api"
	"tributary/sample"
	"tributary/tree"
	"tributary/value"
)

// The makers of values, by short names.
var (
	null, number, text = sample.Null(), sample.Number, sample.Text
	array, doc, one    = sample.Array, sample.Doc, sample.One
	alike, none        = sample.Alike, sample.None
)

func steps(l ...string) []string { return l }

// numbers is an array of 0 to n-1.
func numbers(n int) api.Value {
	v := array()
	for i := range n {
		v.Items = append(v.Items, number(i))
	}
	return v
}

// show is how a failed test tells of what may be long.
func show(v api.Value) string { return fmt.Sprintf("%.300s", fmt.Sprint(v)) }

// abc is a document of a number, a document and an array, in the middle of each something.
func abc() api.Value {
	return doc(steps("a", "b", "c"), number(1), doc(steps("x", "y", "z"), number(2), text("t"), null), array(number(3), one("d", number(4)), number(5)))
}

// noDocs are values that are no documents that may be.
func noDocs() []api.Value {
	return []api.Value{
		{}, null, number(1), text("a"), array(), array(one("a", null)), {Kind: 8}, {Kind: -1},
		doc(steps("a")), doc(nil, null), doc(steps("a", "a"), null, null), doc(steps("a", "$b"), null, null), doc(steps("a", "b"), null, api.Value{}), {Kind: api.KindDoc, Int: 1},
		one("a", array(one("b", api.Value{Kind: api.KindBool, Int: 2}))),
	}
}

// noPaths are lists of steps that are no path.
func noPaths() [][]string {
	return [][]string{nil, {}, {""}, {"a", ""}, {"a.b"}, {"$a"}, {"a", "$"}, {strings.Repeat("n", 33)}, slices.Repeat(steps("a"), 9), steps("1", "2", "3", "4", "5", "6", "7", "8", "9")}
}

var eight = steps("1", "2", "3", "4", "5", "6", "7", "8")

// P5.1: Set.

func TestSet(t *testing.T) {
	for _, c := range []struct {
		v    api.Value
		p    []string
		x    api.Value
		want api.Value
	}{
		{one("a", number(1)), steps("b", "c"), number(5), doc(steps("a", "b"), number(1), one("c", number(5)))},
		{doc(nil), steps("a"), null, one("a", null)},
		{doc(nil), steps("0"), null, one("0", null)},
		{doc(nil), steps("0", "00", "1000"), null, sample.Within(null, "0", "00", "1000")},
		{doc(nil), eight, null, sample.Within(null, eight...)},
		{one("a", doc(nil)), steps("a", "b"), array(null), sample.Within(array(null), "a", "b")},
		{one("a", number(1)), steps("a"), doc(nil), one("a", doc(nil))},
		{one("a", one("b", null)), steps("a"), number(7), one("a", number(7))},
		{doc(steps("a", "b", "c"), null, null, null), steps("b"), number(1), doc(steps("a", "b", "c"), null, number(1), null)},
		{doc(steps("a", "b"), null, null), steps("ab"), null, doc(steps("a", "b", "ab"), null, null, null)},
		{abc(), steps("b", "y"), number(0), doc(steps("a", "b", "c"), number(1), doc(steps("x", "y", "z"), number(2), number(0), null), abc().Items[2])},
		{abc(), steps("b", "w"), number(0), doc(steps("a", "b", "c"), number(1), doc(steps("x", "y", "z", "w"), number(2), text("t"), null, number(0)), abc().Items[2])},
		{abc(), steps("c", "1"), number(0), doc(steps("a", "b", "c"), number(1), abc().Items[1], array(number(3), number(0), number(5)))},
		{abc(), steps("c", "1", "e", "f"), number(0), doc(steps("a", "b", "c"), number(1), abc().Items[1], array(number(3), doc(steps("d", "e"), number(4), one("f", number(0))), number(5)))},
		{abc(), steps("c", "3"), doc(nil), doc(steps("a", "b", "c"), number(1), abc().Items[1], array(number(3), one("d", number(4)), number(5), doc(nil)))},
		{one("a", array()), steps("a", "0"), null, one("a", array(null))},
		{one("a", array(array())), steps("a", "0", "0"), null, one("a", array(array(null)))},
		{one("a", numbers(10)), steps("a", "9"), null, one("a", array(append(numbers(9).Items, null)...))},
		{one("a", numbers(10)), steps("a", "10"), number(10), one("a", numbers(11))},
		{one("a", numbers(999)), steps("a", "999"), number(999), one("a", numbers(1000))},
		{one("a", numbers(1000)), steps("a", "999"), null, one("a", array(append(numbers(999).Items, null)...))},
		{one("a", numbers(2000)), steps("a", "999"), number(999), one("a", numbers(2000))},
		{sample.Within(array(null), eight[:7]...), eight[:7], null, sample.Within(null, eight[:7]...)},
		{doc(steps("1000", "01"), null, null), steps("1000"), number(1), doc(steps("1000", "01"), number(1), null)},
	} {
		got, e := tree.Set(c.v, c.p, c.x)
		if e != api.OK || !alike(got, c.want) {
			t.Errorf("Set(%s, %q, %v) = %s, %d, want %s", show(c.v), c.p, c.x, show(got), e, show(c.want))
		}
	}
}

func TestSetWhereNoStepLeads(t *testing.T) {
	for _, c := range []struct {
		v api.Value
		p []string
	}{
		{one("a", number(1)), steps("a", "b")},
		{one("a", null), steps("a", "0")},
		{one("a", api.Value{Kind: api.KindBool}), steps("a", "b")},
		{one("a", text("abc")), steps("a", "0")},
		{one("a", text("")), steps("a", "b", "c")},
		{one("a", api.Value{Kind: api.KindBytes, Text: "abc"}), steps("a", "1")},
		{one("a", array()), steps("a", "1")},
		{one("a", array()), steps("a", "0", "b")},
		{one("a", array()), steps("a", "b")},
		{one("a", array()), steps("a", "00")},
		{one("a", numbers(2)), steps("a", "00")},
		{one("a", numbers(2)), steps("a", "01")},
		{one("a", numbers(2)), steps("a", "02")},
		{one("a", numbers(2)), steps("a", "3")},
		{one("a", numbers(2)), steps("a", "-1")},
		{one("a", numbers(2)), steps("a", "2", "b")},
		{one("a", numbers(2)), steps("a", "2", "0")},
		{one("a", numbers(2)), steps("a", "1", "b")},
		{one("a", numbers(2)), steps("a", "999")},
		{one("a", numbers(998)), steps("a", "999")},
		{one("a", numbers(1000)), steps("a", "1000")},
		{one("a", numbers(1001)), steps("a", "1000")},
		{one("a", array(one("b", number(1)))), steps("a", "0", "b", "c")},
		{sample.Within(number(1), eight[:7]...), eight},
	} {
		if got, e := tree.Set(c.v, c.p, null); e != api.ErrPath || !none(got) {
			t.Errorf("Set(%s, %q) = %s, %d", show(c.v), c.p, show(got), e)
		}
	}
}

func TestSetMayMakeMoreThanIsWhole(t *testing.T) {
	deep := sample.Within(null, eight...)
	got, e := tree.Set(doc(nil), eight, deep)
	if want := sample.Within(deep, eight...); e != api.OK || !alike(got, want) || value.Depth(got) != 17 || value.Check(got) != api.ErrDepth {
		t.Errorf("a deep one is %v, %d", got, e)
	}
	long := text(strings.Repeat("x", 5000))
	got, e = tree.Set(one("a", long), steps("b"), long)
	if want := doc(steps("a", "b"), long, long); e != api.OK || !alike(got, want) {
		t.Errorf("a large one has %d bytes, %d", value.Size(got), e)
	}
	for range 100 {
		if got, e = tree.Set(one("a", array(got)), steps("a", "1"), got); e != api.OK {
			t.Fatal(e)
		}
		got.Items[0].Items = got.Items[0].Items[1:]
	}
	if value.Depth(got) < 201 {
		t.Error("one that is made of one that is deep has the depth", value.Depth(got))
	}
}

// P5.1: Drop and Cut.

func TestDrop(t *testing.T) {
	for _, c := range []struct {
		v    api.Value
		p    []string
		want api.Value
	}{
		{one("a", number(1)), steps("a"), doc(nil)},
		{doc(steps("a", "b", "c"), number(1), number(2), number(3)), steps("a"), doc(steps("b", "c"), number(2), number(3))},
		{doc(steps("a", "b", "c"), number(1), number(2), number(3)), steps("b"), doc(steps("a", "c"), number(1), number(3))},
		{doc(steps("a", "b", "c"), number(1), number(2), number(3)), steps("c"), doc(steps("a", "b"), number(1), number(2))},
		{doc(steps("0", "00", "1000"), number(1), number(2), number(3)), steps("00"), doc(steps("0", "1000"), number(1), number(3))},
		{doc(steps("0", "00", "1000"), number(1), number(2), number(3)), steps("1000"), doc(steps("0", "00"), number(1), number(2))},
		{abc(), steps("b"), doc(steps("a", "c"), number(1), abc().Items[2])},
		{abc(), steps("b", "y"), doc(steps("a", "b", "c"), number(1), doc(steps("x", "z"), number(2), null), abc().Items[2])},
		{abc(), steps("c", "0"), doc(steps("a", "b", "c"), number(1), abc().Items[1], array(null, one("d", number(4)), number(5)))},
		{abc(), steps("c", "1"), doc(steps("a", "b", "c"), number(1), abc().Items[1], array(number(3), null, number(5)))},
		{abc(), steps("c", "2"), doc(steps("a", "b", "c"), number(1), abc().Items[1], array(number(3), one("d", number(4)), null))},
		{abc(), steps("c", "1", "d"), doc(steps("a", "b", "c"), number(1), abc().Items[1], array(number(3), doc(nil), number(5)))},
		{one("a", numbers(1000)), steps("a", "999"), one("a", array(append(numbers(999).Items, null)...))},
		{sample.Within(null, eight...), eight, sample.Within(doc(nil), eight[:7]...)},
	} {
		if got, e := tree.Drop(c.v, c.p); e != api.OK || !alike(got, c.want) {
			t.Errorf("Drop(%s, %q) = %s, %d, want %s", show(c.v), c.p, show(got), e, show(c.want))
		}
	}
}

// nowhere are paths at which nothing lies in abc.
var nowhere = [][]string{{"d"}, {"A"}, {"0"}, {"a", "a"}, {"a", "0"}, {"b", "w"}, {"b", "0"}, {"b", "x", "x"}, {"b", "y", "0"}, {"b", "z", "a"}, {"c", "d"}, {"c", "3"}, {"c", "4"}, {"c", "00"}, {"c", "01"}, {"c", "999"}, {"c", "1000"}, {"c", "-1"}, {"c", "0", "0"}, {"c", "1", "e"}, {"c", "1", "d", "e"}, {"d", "e", "f"}, {"a", "b", "c", "d", "e", "f", "g", "h"}}

func TestWhereNothingLies(t *testing.T) {
	for _, p := range nowhere {
		if got, e := tree.Drop(abc(), p); e != api.OK || !alike(got, abc()) {
			t.Errorf("Drop(.., %q) = %v, %d", p, got, e)
		}
		for _, n := range []int{0, 1, math.MaxInt} {
			if got, e := tree.Cut(abc(), p, n); e != api.OK || !alike(got, abc()) {
				t.Errorf("Cut(.., %q, %d) = %v, %d", p, n, got, e)
			}
		}
		if got, ok := tree.Get(abc(), p); ok || !none(got) {
			t.Errorf("Get(.., %q) = %v, %v", p, got, ok)
		}
	}
	for _, n := range []int{1000, 1001, 1500} {
		v := one("a", numbers(n))
		for _, step := range []string{"1000", "1001", fmt.Sprint(n), fmt.Sprint(n - 1)} {
			if step == "999" {
				continue
			}
			if got, e := tree.Drop(v, steps("a", step)); e != api.OK || !alike(got, v) {
				t.Errorf("Drop of the item %s of %d: %d", step, n, e)
			}
			if _, ok := tree.Get(v, steps("a", step)); ok {
				t.Errorf("the item %s of %d", step, n)
			}
		}
	}
}

func TestCut(t *testing.T) {
	for _, total := range []int{0, 1, 2, 3, 999, 1000, 1001, 2000} {
		for _, n := range []int{0, 1, 2, 3, 998, 999, 1000, 1001, 5000, math.MaxInt} {
			for _, p := range [][]string{{"a"}, {"b", "a"}, {"0", "1", "a"}, eight} {
				got, e := tree.Cut(sample.Within(numbers(total), p...), p, n)
				if want := sample.Within(numbers(min(total, n)), p...); e != api.OK || !alike(got, want) {
					t.Errorf("Cut of %d items at %q to %d: %s, %d", total, p, n, show(got), e)
				}
			}
		}
	}
	v := doc(steps("a", "b", "c"), number(1), array(null, array(number(1), number(2), number(3)), null), array(null, null))
	for _, c := range []struct {
		p    []string
		n    int
		want api.Value
	}{
		{steps("b"), 2, doc(steps("a", "b", "c"), number(1), array(null, array(number(1), number(2), number(3))), array(null, null))},
		{steps("b", "1"), 1, doc(steps("a", "b", "c"), number(1), array(null, array(number(1)), null), array(null, null))},
		{steps("c"), 0, doc(steps("a", "b", "c"), number(1), array(null, array(number(1), number(2), number(3)), null), array())},
		{steps("b", "0"), 0, v},
		{steps("a"), 0, v},
	} {
		if got, e := tree.Cut(v, c.p, c.n); e != api.OK || !alike(got, c.want) {
			t.Errorf("Cut(%v, %q, %d) = %v, %d, want %v", v, c.p, c.n, got, e, c.want)
		}
	}
}

func TestCutOfWhatIsNoArray(t *testing.T) {
	for _, x := range []api.Value{null, number(5), {Kind: api.KindBool, Int: 1}, text("abc"), {Kind: api.KindBytes, Text: "abc"}, doc(nil), doc(steps("0", "1", "2"), null, null, null)} {
		for n := range 4 {
			if got, e := tree.Cut(one("a", x), steps("a"), n); e != api.OK || !alike(got, one("a", x)) {
				t.Errorf("Cut of %v to %d: %v, %d", x, n, got, e)
			}
		}
	}
}

// P5.1: which error comes first.

func TestErrors(t *testing.T) {
	bad, path, arg := api.ErrValue, api.ErrPath, api.ErrArg
	told := func(what string, v api.Value, p []string, got api.Value, e, want api.Errno) {
		t.Helper()
		if e != want || !none(got) {
			t.Errorf("%s at %q of %v: %v, %d, want %d", what, p, v, got, e, want)
		}
	}
	try := func(v api.Value, p []string, want api.Errno) {
		t.Helper()
		got, e := tree.Set(v, p, null)
		told("Set", v, p, got, e, want)
		for _, x := range noDocs() {
			if !value.May(x) {
				got, e = tree.Set(v, p, x)
				told("Set of what may not be", v, p, got, e, bad)
			}
		}
		got, e = tree.Drop(v, p)
		told("Drop", v, p, got, e, want)
		for _, n := range []int{0, 5, -1, math.MinInt} {
			got, e = tree.Cut(v, p, n)
			told("Cut", v, p, got, e, want)
		}
		if got, ok := tree.Get(v, p); ok || !none(got) {
			t.Errorf("Get(%v, %q) = %v, %v", v, p, got, ok)
		}
	}
	for _, v := range noDocs() {
		for _, p := range append(noPaths(), steps("a"), steps("a", "b")) {
			try(v, p, bad)
		}
	}
	for _, v := range []api.Value{doc(nil), abc(), one("a", number(1)), sample.Within(null, eight...)} {
		for _, p := range noPaths() {
			try(v, p, path)
		}
	}
	for _, x := range noDocs() {
		if value.May(x) {
			continue
		}
		for _, p := range [][]string{{"a"}, {"c", "0"}, {"a", "b"}, {"c", "9"}, {"c", "3", "a"}} {
			got, e := tree.Set(abc(), p, x)
			told("Set of what may not be", abc(), p, got, e, bad)
		}
	}
	for _, p := range append([][]string{{"a"}, {"b"}, {"c"}, {"c", "1"}, {"b", "y"}}, nowhere...) {
		for _, n := range []int{-1, -2, math.MinInt} {
			got, e := tree.Cut(abc(), p, n)
			told("Cut", abc(), p, got, e, arg)
		}
	}
}

// P5.2: Get and Id.

func TestGet(t *testing.T) {
	v := abc()
	for _, c := range []struct {
		p    []string
		want api.Value
	}{
		{steps("a"), number(1)}, {steps("b"), v.Items[1]}, {steps("c"), v.Items[2]},
		{steps("b", "x"), number(2)}, {steps("b", "y"), text("t")}, {steps("b", "z"), null},
		{steps("c", "0"), number(3)}, {steps("c", "1"), one("d", number(4))}, {steps("c", "1", "d"), number(4)}, {steps("c", "2"), number(5)},
	} {
		if got, ok := tree.Get(v, c.p); !ok || !alike(got, c.want) {
			t.Errorf("Get(.., %q) = %v, %v, want %v", c.p, got, ok, c.want)
		}
	}
	digits := doc(steps("0", "00", "01", "999", "1000"), numbers(1), numbers(2), numbers(3), numbers(4), numbers(1500))
	for i, name := range digits.Names {
		if got, ok := tree.Get(digits, steps(name)); !ok || !alike(got, digits.Items[i]) {
			t.Errorf("the item %q of a document: %s, %v", name, show(got), ok)
		}
	}
	for i := range 1500 {
		got, ok := tree.Get(digits, steps("1000", strconv.Itoa(i)))
		if ok != (i <= 999) || ok && !alike(got, number(i)) || !ok && !none(got) {
			t.Errorf("the item %d of an array: %v, %v", i, got, ok)
		}
	}
	if got, ok := tree.Get(sample.Within(number(8), eight...), eight); !ok || !alike(got, number(8)) {
		t.Errorf("at 8 steps lies %v, %v", got, ok)
	}
	if got, ok := tree.Get(doc(nil), steps("a")); ok || !none(got) {
		t.Errorf("in an empty document lies %v, %v", got, ok)
	}
	long := sample.Within(numbers(3), slices.Repeat(steps("n"), 50)...)
	if got, ok := tree.Get(long, slices.Repeat(steps("n"), 8)); !ok || value.Depth(got) != 44 {
		t.Errorf("of a deep one: %v, %v", got, ok)
	}
}

func TestId(t *testing.T) {
	for _, x := range []api.Value{null, number(5), text("x"), array(null), doc(steps("_id"), number(1))} {
		for _, v := range []api.Value{one("_id", x), doc(steps("a", "_id", "b"), number(7), x, number(8))} {
			if got, ok := tree.Id(v); !ok || !alike(got, x) {
				t.Errorf("Id(%v) = %v, %v", v, got, ok)
			}
		}
	}
	for _, v := range append(noDocs(), doc(nil), one("id", null), one("_ID", null), one("a", one("_id", null)), doc(steps("_id", "$"), null, null), array(number(1))) {
		if got, ok := tree.Id(v); ok || !none(got) {
			t.Errorf("Id(%v) = %v, %v", v, got, ok)
		}
	}
}

// P5.3: what follows, and all of it held against what the words say, for small documents and paths.

// small are documents of few items, in each other.
func small() []api.Value {
	inner := []api.Value{
		null, number(1), text("0"), array(), array(number(1)), array(number(1), number(2)), doc(nil), one("a", number(1)), doc(steps("b", "a"), number(1), number(2)), one("0", null),
	}
	for _, x := range slices.Clone(inner) {
		inner = append(inner, array(x), array(null, x), one("a", x), doc(steps("0", "b", "1"), null, x, null))
	}
	l := []api.Value{doc(nil)}
	for _, x := range inner {
		l = append(l, one("a", x), doc(steps("b", "a", "0"), null, x, array(number(1))))
	}
	return l
}

// shortPaths are all paths of up to three steps of a few.
func shortPaths() [][]string {
	var l [][]string
	names := steps("a", "b", "0", "1", "2", "00")
	for _, x := range names {
		l = append(l, steps(x))
		for _, y := range names {
			l = append(l, steps(x, y))
			for _, z := range names {
				l = append(l, steps(x, y, z))
			}
		}
	}
	return l
}

// goStep tells which item of v the step leads to; -1, if none.
func goStep(v api.Value, step string) int {
	for i := range v.Items {
		if v.Kind == api.KindDoc && v.Names[i] == step || v.Kind == api.KindArray && fmt.Sprint(i) == step && i < 1000 {
			return i
		}
	}
	return -1
}

// remade is v with another item at i; if that is how many there are, it is one more.
func remade(v api.Value, i int, name string, x api.Value) api.Value {
	v.Items = slices.Concat(v.Items[:i], []api.Value{x}, v.Items[min(i+1, len(v.Items)):])
	if v.Kind == api.KindDoc {
		v.Names = slices.Concat(v.Names[:i], []string{name}, v.Names[min(i+1, len(v.Names)):])
	}
	return v
}

func wantGet(v api.Value, p []string) (api.Value, bool) {
	for _, step := range p {
		i := goStep(v, step)
		if i < 0 {
			return api.Value{}, false
		}
		v = v.Items[i]
	}
	return v, true
}

func wantSet(v api.Value, p []string, x api.Value) (api.Value, bool) {
	if len(p) == 0 {
		return x, true
	}
	i := goStep(v, p[0])
	switch {
	case i >= 0:
		item, ok := wantSet(v.Items[i], p[1:], x)
		return remade(v, i, p[0], item), ok
	case v.Kind == api.KindDoc:
		item, ok := wantSet(doc(nil), p[1:], x)
		return remade(v, len(v.Items), p[0], item), ok
	case v.Kind == api.KindArray && len(p) == 1 && p[0] == fmt.Sprint(len(v.Items)) && len(v.Items) < 1000:
		return remade(v, len(v.Items), "", x), true
	}
	return api.Value{}, false
}

func wantDrop(v api.Value, p []string) api.Value {
	i := goStep(v, p[0])
	switch {
	case i < 0:
		return v
	case len(p) > 1:
		return remade(v, i, p[0], wantDrop(v.Items[i], p[1:]))
	case v.Kind == api.KindArray:
		return remade(v, i, "", null)
	}
	return doc(slices.Concat(v.Names[:i], v.Names[i+1:]), slices.Concat(v.Items[:i], v.Items[i+1:])...)
}

func wantCut(v api.Value, p []string, n int) api.Value {
	x, ok := wantGet(v, p)
	if !ok || x.Kind != api.KindArray || len(x.Items) <= n {
		return v
	}
	v, _ = wantSet(v, p, array(x.Items[:n]...))
	return v
}

func TestAgainstTheWords(t *testing.T) {
	made := 0
	for _, v := range small() {
		for _, p := range shortPaths() {
			want, ok := wantGet(v, p)
			if got, has := tree.Get(v, p); has != ok || !alike(got, want) {
				t.Fatalf("Get(%v, %q) = %v, %v, want %v", v, p, got, has, want)
			}
			want, ok = wantSet(v, p, number(9))
			got, e := tree.Set(v, p, number(9))
			if ok && (e != api.OK || !alike(got, want)) || !ok && (e != api.ErrPath || !none(got)) {
				t.Fatalf("Set(%v, %q) = %v, %d, want %v, %v", v, p, got, e, want, ok)
			}
			if ok {
				made++
			}
			if got, e := tree.Drop(v, p); e != api.OK || !alike(got, wantDrop(v, p)) {
				t.Fatalf("Drop(%v, %q) = %v, %d, want %v", v, p, got, e, wantDrop(v, p))
			}
			for n := range 4 {
				if got, e := tree.Cut(v, p, n); e != api.OK || !alike(got, wantCut(v, p, n)) {
					t.Fatalf("Cut(%v, %q, %d) = %v, %d, want %v", v, p, n, got, e, wantCut(v, p, n))
				}
			}
		}
	}
	if made < 1000 {
		t.Error("just so many are set:", made)
	}
}

// meets tells whether one of the paths begins the other one.
func meets(p, q []string) bool {
	n := min(len(p), len(q))
	return slices.Equal(p[:n], q[:n])
}

// othersStay tells at which path that does not meet p something else lies in now than in v, if there is one.
func othersStay(t *testing.T, what string, v, now api.Value, p []string, paths [][]string) {
	t.Helper()
	for _, q := range paths {
		if meets(p, q) {
			continue
		}
		a, okA := tree.Get(v, q)
		if b, okB := tree.Get(now, q); okA != okB || !alike(a, b) {
			t.Fatalf("%s at %q of %v: at %q lies %v, %v, not %v, %v", what, p, v, q, b, okB, a, okA)
		}
	}
}

func TestWhatWasSetLiesThereAndAllElseIsAsBefore(t *testing.T) {
	paths := shortPaths()
	few := append(slices.Clone(paths[:20]), steps("a", "b", "1"), steps("b", "0", "a"), steps("a", "0", "00"))
	for _, v := range small() {
		for _, p := range paths {
			if now, e := tree.Set(v, p, number(9)); e == api.OK {
				if got, ok := tree.Get(now, p); !ok || !alike(got, number(9)) {
					t.Fatalf("at %q, where 9 was set, lies %v, %v", p, got, ok)
				}
				if again, e := tree.Set(now, p, number(9)); e != api.OK || !alike(again, now) {
					t.Fatalf("set twice at %q of %v: %v, %d", p, v, again, e)
				}
				othersStay(t, "set", v, now, p, few)
			}
			now, _ := tree.Drop(v, p)
			if got, ok := tree.Get(now, p); ok && got.Kind != api.KindNull {
				t.Fatalf("at %q, which was dropped, lies %v", p, got)
			}
			if in, ok := tree.Get(now, p[:len(p)-1]); !ok || in.Kind != api.KindArray {
				if _, ok := tree.Get(now, p); ok {
					t.Fatalf("%q was dropped from a document, and lies there", p)
				}
			}
			if again, e := tree.Drop(now, p); e != api.OK || !alike(again, now) {
				t.Fatalf("dropped twice at %q of %v: %v, %d", p, v, again, e)
			}
			othersStay(t, "drop", v, now, p, few)
			now, _ = tree.Cut(v, p, 1)
			if again, e := tree.Cut(now, p, 1); e != api.OK || !alike(again, now) {
				t.Fatalf("cut twice at %q of %v: %v, %d", p, v, again, e)
			}
			othersStay(t, "cut", v, now, p, few)
		}
	}
}

// What is handed in is not changed and not kept; what is answered is new memory.

func TestNothingIsChangedAndAnswersAreNewMemory(t *testing.T) {
	x := doc(steps("k", "l"), array(number(1)), null)
	calls := []func(v api.Value, p []string, x api.Value) api.Value{
		func(v api.Value, p []string, x api.Value) api.Value { got, _ := tree.Set(v, p, x); return got },
		func(v api.Value, p []string, x api.Value) api.Value { got, _ := tree.Drop(v, p); return got },
		func(v api.Value, p []string, x api.Value) api.Value { got, _ := tree.Cut(v, p, 1); return got },
		func(v api.Value, p []string, x api.Value) api.Value { got, _ := tree.Get(v, p); return got },
		func(v api.Value, p []string, x api.Value) api.Value {
			got, _ := tree.Id(one("_id", v))
			return got
		},
	}
	for i, call := range calls {
		for _, p := range append([][]string{{"a"}, {"b"}, {"c"}, {"b", "y"}, {"c", "1"}, {"c", "1", "d"}}, nowhere...) {
			v, handed, path := sample.Roomy(abc()), sample.Roomy(x), sample.RoomySteps(p)
			got := call(v, path, handed)
			want := value.Clone(got)
			if !sample.Untouched(v, abc()) || !sample.Untouched(handed, x) || !slices.Equal(path[:len(p)+2], append(slices.Clone(p), "room", "room")) {
				t.Fatalf("call %d at %q changed what was handed in: %v, %v, %q", i, p, v, handed, path)
			}
			again := call(v, path, handed)
			sample.Spoil(again)
			if !sample.Untouched(v, abc()) || !sample.Untouched(handed, x) || !alike(got, want) {
				t.Fatalf("call %d at %q answers memory that is another's", i, p)
			}
			sample.Spoil(v)
			sample.Spoil(handed)
			clear(path)
			if !alike(got, want) {
				t.Fatalf("call %d at %q answers memory that was handed in", i, p)
			}
		}
	}
}

func TestNoTwoListsOfAnAnswerAreOne(t *testing.T) {
	inner := array(number(1), number(2))
	got, _ := tree.Set(doc(steps("a", "b"), inner, inner), steps("c"), array(inner, inner))
	got.Items[0].Items[0] = null
	got.Items[2].Items[0].Items[1] = null
	if !alike(got.Items[1], inner) || !alike(got.Items[2].Items[1], inner) || !alike(inner, array(number(1), number(2))) {
		t.Error("two lists of an answer are one:", got)
	}
}
