package delta_test

import (
	"fmt"
	"math"
	"slices"
	"strings"
	"testing"

	"tributary/api"
	"tributary/delta"
	"tributary/path"
	"tributary/sample"
	"tributary/tree"
	"tributary/value"
)

// The makers of values and changes, by short names.
var (
	null, number, text  = sample.Null(), sample.Number, sample.Text
	array, doc, one     = sample.Array, sample.Doc, sample.One
	set, drop, cut      = sample.Set, sample.Drop, sample.Cut
	alike, none, deep   = sample.Alike, sample.None, sample.Deep
	sameList, spoilList = sample.AlikeDeltas, sample.SpoilDeltas
)

func steps(l ...string) []string { return l }

// at is d at another path.
func at(d api.Delta, p ...string) api.Delta {
	d.Path = p
	return d
}

// many are n changes at n paths.
func many(n int) []api.Delta {
	var l []api.Delta
	for i := range n {
		l = append(l, set("a"+string(rune('A'+i%50))+strings.Repeat("x", i/50%20), number(i)))
	}
	return l
}

// show is how a failed test tells of what may be long.
func show(x any) string { return fmt.Sprintf("%.300s", fmt.Sprint(x)) }

func letters(n int) string { return strings.Repeat("x", n) }

// good are changes that may be.
func good() []api.Delta {
	return []api.Delta{
		set("a", null), set("a", number(0)), set("a", doc(nil)), set("a", array()), set("a.b", number(math.MinInt)), set("0.00.1000", text("")), set("1.2.3.4.5.6.7.8", null), set(letters(32), null),
		set("_id", number(1)), set("a", deep(7)), set("a", text(letters(4093))), set("\xff.\x00", api.Value{Kind: api.KindBytes, Text: "\x00\xff"}), set("a", doc(steps("b", "c"), array(null, one("d", null)), text("t"))),
		drop("a"), drop("a.b"), drop("1.2.3.4.5.6.7.8"), drop("_id"), drop("a.999"),
		cut("a", 0), cut("a", 1), cut("a.b", 127), cut("a", 128), cut("a", 998), cut("1.2.3.4.5.6.7.8", 999),
		{Kind: api.DeltaDrop, Path: steps("a"), Value: api.Value{Items: []api.Value{}, Names: []string{}}},
		{Kind: api.DeltaCut, Path: steps("a"), Value: api.Value{Items: []api.Value{}, Names: []string{}}},
	}
}

// wrong are changes that may not be.
func wrong() []api.Delta {
	l := []api.Delta{
		{}, {Path: steps("a")}, {Kind: 4, Path: steps("a")}, {Kind: -1, Path: steps("a")}, {Kind: math.MaxInt, Path: steps("a"), Value: null}, {Path: steps("a"), Value: null},
		set("a", api.Value{}), set("a", api.Value{Kind: 8}), set("a", deep(8)), set("a", text(letters(4094))), set("a", array(api.Value{})), set("a", doc(steps("b", "b"), null, null)), set("a", one("$", null)),
		{Kind: api.DeltaSet, Path: steps("a"), Value: null, N: 1}, {Kind: api.DeltaSet, Path: steps("a"), Value: null, N: -1},
		{Kind: api.DeltaDrop, Path: steps("a"), N: 1}, {Kind: api.DeltaDrop, Path: steps("a"), N: -1},
		cut("a", -1), cut("a", 1000), cut("a", math.MinInt), cut("a", math.MaxInt),
	}
	for _, v := range []api.Value{null, {Int: 1}, {Text: "a"}, {Items: []api.Value{{}}}, {Names: steps("")}, {Kind: -1}} {
		l = append(l, api.Delta{Kind: api.DeltaDrop, Path: steps("a"), Value: v}, api.Delta{Kind: api.DeltaCut, Path: steps("a"), Value: v})
	}
	for _, p := range [][]string{nil, {}, {""}, {"a", ""}, {"a.b"}, {"$"}, {letters(33)}, steps("1", "2", "3", "4", "5", "6", "7", "8", "9")} {
		l = append(l, at(set("a", null), p...), at(drop("a"), p...), at(cut("a", 1), p...))
	}
	return l
}

// P6.1: May, Check, Free, Touches, Same, Clone.

func TestMayAndCheck(t *testing.T) {
	for _, d := range good() {
		if !delta.May(d) || delta.Check([]api.Delta{d}) != api.OK || delta.Check([]api.Delta{d, d, d}) != api.OK {
			t.Errorf("%v may be", d)
		}
	}
	for _, d := range wrong() {
		for _, l := range [][]api.Delta{{d}, {d, drop("a")}, {drop("a"), cut("b", 1), d}, append(many(63), d)} {
			if delta.May(d) || delta.Check(l) != api.ErrArg {
				t.Errorf("%v may not be: %v, %d", d, delta.May(d), delta.Check(l))
			}
		}
		if l := append(many(64), d); delta.Check(l) != api.ErrLong {
			t.Errorf("of too many, one of which may not be: %d", delta.Check(l))
		}
	}
	for n, want := range map[int]api.Errno{0: api.OK, 1: api.OK, 64: api.OK, 65: api.ErrLong, 1000: api.ErrLong} {
		if e := delta.Check(many(n)); e != want {
			t.Errorf("Check of %d: %d", n, e)
		}
	}
	if delta.Check([]api.Delta{}) != api.OK || delta.Check(make([]api.Delta, 64)) != api.ErrArg || delta.Check(make([]api.Delta, 65)) != api.ErrLong {
		t.Error("Check of empty ones")
	}
}

func TestFree(t *testing.T) {
	for _, c := range []struct {
		paths [][]string
		want  bool
	}{
		{nil, true},
		{[][]string{{"a"}}, true},
		{[][]string{{}}, true},
		{[][]string{{"a"}, {"b"}}, true},
		{[][]string{{"a"}, {"a"}}, false},
		{[][]string{{"a"}, {"ab"}}, true},
		{[][]string{{"a"}, {"a", "b"}}, false},
		{[][]string{{"a", "b"}, {"a"}}, false},
		{[][]string{{"a", "b"}, {"a", "c"}}, true},
		{[][]string{{"a", "b"}, {"a.b"}}, true},
		{[][]string{{}, {"a"}}, false},
		{[][]string{{}, {}}, false},
		{[][]string{{"a", "b"}, {"c"}, {"a", "b", "d"}}, false},
		{[][]string{{"a", "b", "d"}, {"c"}, {"a", "b"}}, false},
		{[][]string{{"a", "b", "c"}, {"a", "b", "d"}, {"a", "e"}, {"c"}}, true},
		{[][]string{{"a"}, {"a!"}, {"a", "z"}}, false},
		{[][]string{{"a", "z"}, {"a!"}, {"b"}, {"a\x00", "q"}, {"a"}}, false},
		{[][]string{{"b"}, {"a", "0"}, {"a", "00"}, {"a", "01"}}, true},
		{[][]string{{"", "x"}, {""}}, false},
	} {
		var l []api.Delta
		for _, p := range c.paths {
			l = append(l, at(set("a", null), p...))
		}
		if got := delta.Free(l); got != c.want {
			t.Errorf("Free of %q = %v", c.paths, got)
		}
		slices.Reverse(l)
		if got := delta.Free(l); got != c.want {
			t.Errorf("Free of %q the other way round = %v", c.paths, got)
		}
	}
	if !delta.Free(many(64)) || !delta.Free(many(65)) || delta.Free(append(many(64), drop("aA.b"))) || delta.Free(make([]api.Delta, 2)) {
		t.Error("Free of many")
	}
}

// someLists calls see with all lists of up to so many of the changes.
func someLists(of []api.Delta, most int, see func(l []api.Delta)) {
	var add func(l []api.Delta, left int)
	add = func(l []api.Delta, left int) {
		see(l)
		if left > 0 {
			for _, d := range of {
				add(append(slices.Clone(l), d), left-1)
			}
		}
	}
	add(nil, most)
}

func TestFreeAndTouchesAgainstTheWords(t *testing.T) {
	of := []api.Delta{drop("a"), drop("b"), drop("ab"), drop("a.a"), drop("a.b"), drop("a.b.c"), drop("b.a"), at(drop("a"))}
	someLists(of, 4, func(l []api.Delta) {
		free := true
		for i, d := range l {
			for _, e := range l[:i] {
				free = free && !path.Meet(d.Path, e.Path)
			}
		}
		if delta.Free(l) != free {
			t.Fatalf("Free(%v) = %v", l, !free)
		}
		for _, p := range [][]string{nil, {"a"}, {"ab"}, {"a", "b"}, {"a", "c", "d"}, {"c"}} {
			touches := slices.ContainsFunc(l, func(d api.Delta) bool { return path.Meet(p, d.Path) })
			if delta.Touches(l, p) != touches {
				t.Fatalf("Touches(%v, %q) = %v", l, p, !touches)
			}
		}
	})
}

func TestTouches(t *testing.T) {
	l := []api.Delta{set("a.b", null), cut("c", 1)}
	for p, want := range map[string]bool{"a": true, "a.b": true, "a.b.c": true, "a.c": false, "ab": false, "b": false, "c": true, "c.0": true, "d": false, "": false, "a.b.c.d.e.f.g.h.i.j": true} {
		if delta.Touches(l, strings.Split(p, ".")) != want {
			t.Errorf("Touches(.., %q) = %v", p, !want)
		}
	}
	if delta.Touches(nil, steps("a")) || delta.Touches(nil, nil) || !delta.Touches(l, nil) || !delta.Touches([]api.Delta{{}}, steps("a")) {
		t.Error("Touches of nothing")
	}
}

func TestSame(t *testing.T) {
	all := append(good()[:24:24], wrong()...)
	var distinct []api.Delta
	for _, d := range all {
		if !slices.ContainsFunc(distinct, func(e api.Delta) bool { return sameList([]api.Delta{d}, []api.Delta{e}) }) {
			distinct = append(distinct, d)
		}
	}
	if len(distinct) < 50 {
		t.Fatal("just so many:", len(distinct))
	}
	for i, a := range distinct {
		for k, b := range distinct {
			if delta.Same([]api.Delta{a}, []api.Delta{b}) != (i == k) || delta.Same([]api.Delta{a, a}, []api.Delta{a, b}) != (i == k) || delta.Same([]api.Delta{a, b}, []api.Delta{b, a}) != (i == k) {
				t.Errorf("Same of %v and %v", a, b)
			}
			if delta.Same([]api.Delta{a, b}, []api.Delta{a}) || delta.Same([]api.Delta{b}, []api.Delta{b, a}) {
				t.Error("a list and a beginning of it are the same")
			}
		}
	}
	if !delta.Same(nil, []api.Delta{}) || !delta.Same(many(1000), many(1000)) || delta.Same(many(1000), many(999)) || delta.Same(nil, many(1)) || delta.Same([]api.Delta{{}}, nil) {
		t.Error("Same of none and many")
	}
	empty := api.Delta{Path: []string{}, Value: api.Value{Items: []api.Value{}, Names: []string{}}}
	if !delta.Same([]api.Delta{{}}, []api.Delta{empty}) {
		t.Error("nil and the empty list are not the same")
	}
	inner := func(v api.Value) []api.Delta { return []api.Delta{set("a", array(null, one("b", v)))} }
	for _, v := range []api.Value{{Kind: 9}, {Kind: 10}, {Kind: 9, Int: 1}, {Kind: 9, Text: "a"}, {Kind: 9, Items: []api.Value{{}}}, {Kind: 9, Names: steps("a")}, {Kind: 9, Items: []api.Value{{Kind: 1}}}, {Kind: 9, Names: steps("b")}} {
		if !delta.Same(inner(v), inner(v)) || delta.Same(inner(v), inner(api.Value{})) {
			t.Errorf("within: %v", v)
		}
	}
}

func TestClone(t *testing.T) {
	for _, l := range [][]api.Delta{nil, {}, good(), wrong(), many(100)} {
		got := delta.Clone(l)
		if !sameList(got, l) {
			t.Errorf("Clone(%v) = %v", l, got)
		}
		want := delta.Clone(got)
		spoilList(got)
		if !sameList(delta.Clone(l), want) {
			t.Error("a clone shares with what it was made of")
		}
	}
}

// P6.2: Apply.

func TestApply(t *testing.T) {
	for _, c := range []struct {
		v    api.Value
		l    []api.Delta
		want api.Value
	}{
		{one("c", number(2)), []api.Delta{set("a.b", number(1)), drop("c")}, one("a", one("b", number(1)))},
		{doc(nil), nil, doc(nil)},
		{one("a", null), []api.Delta{}, one("a", null)},
		{one("a", array(number(1), number(2), number(3))), []api.Delta{cut("a", 2)}, one("a", array(number(1), number(2)))},
		{one("a", array(number(1), number(2), number(3))), []api.Delta{cut("a", 1), set("a.1", number(9)), set("a.2", number(8)), drop("a.0")}, one("a", array(null, number(9), number(8)))},
		{doc(nil), []api.Delta{set("a", number(1)), drop("a"), set("b", number(2)), set("a", number(3))}, doc(steps("b", "a"), number(2), number(3))},
		{doc(nil), []api.Delta{set("a", array()), set("a.0", number(1)), cut("a", 0)}, one("a", array())},
		{doc(nil), []api.Delta{set("a.b", number(1)), set("a.c", number(2)), drop("a.b")}, one("a", one("c", number(2)))},
		{one("a", number(5)), []api.Delta{drop("b"), drop("a.b"), cut("a", 3), cut("c", 3)}, one("a", number(5))},
		{one("a", number(5)), []api.Delta{set("a", one("b", null)), set("a.b", number(6))}, one("a", one("b", number(6)))},
	} {
		if got, e := delta.Apply(c.v, c.l); e != api.OK || !alike(got, c.want) {
			t.Errorf("Apply(%v, %v) = %v, %d, want %v", c.v, c.l, got, e, c.want)
		}
	}
	got, e := delta.Apply(doc(nil), many(64))
	if e != api.OK || len(got.Items) != 64 || got.Items[63].Int != 63 {
		t.Errorf("64 changes: %v, %d", got, e)
	}
	long := one("a", text(letters(5000)))
	if got, e := delta.Apply(long, []api.Delta{set("b.c.d.e.f.g.h.i", deep(7))}); e != api.OK || value.Depth(got) != 16 || value.Size(got) < 5000 {
		t.Errorf("of more than is whole: %v, %d", got, e)
	}
}

func TestApplyIsOneChangeBehindTheOther(t *testing.T) {
	of := []api.Delta{set("a", number(1)), set("a.b", null), set("a.0", number(2)), set("a", array(number(3))), set("a.1", one("b", null)), drop("a"), drop("a.0"), drop("b"), cut("a", 0), cut("a", 1), set("b.a.1", number(4))}
	for _, v := range []api.Value{doc(nil), one("a", array(number(7), number(8))), doc(steps("b", "a"), one("a", array(null)), one("b", null))} {
		someLists(of, 3, func(l []api.Delta) {
			want, code := v, api.OK
			for _, d := range l {
				if code != api.OK {
					break
				}
				switch d.Kind {
				case api.DeltaSet:
					want, code = tree.Set(want, d.Path, d.Value)
				case api.DeltaDrop:
					want, code = tree.Drop(want, d.Path)
				case api.DeltaCut:
					want, code = tree.Cut(want, d.Path, d.N)
				}
			}
			if got, e := delta.Apply(v, l); e != code || !alike(got, want) {
				t.Fatalf("Apply(%v, %v) = %v, %d, want %v, %d", v, l, got, e, want, code)
			}
		})
	}
}

func TestApplyRefuses(t *testing.T) {
	noDocs := []api.Value{{}, null, number(1), array(one("a", null)), doc(steps("a")), doc(steps("a", "a"), null, null), one("a", api.Value{}), {Kind: 8}}
	lead := []api.Delta{set("a", number(1)), set("a.b", number(1))}
	for _, v := range append(noDocs, doc(nil), one("a", null)) {
		for _, d := range wrong() {
			for _, l := range [][]api.Delta{{d}, append(slices.Clone(lead), d)} {
				if got, e := delta.Apply(v, l); e != api.ErrArg || !none(got) {
					t.Errorf("Apply(%v, %v) = %v, %d", v, l, got, e)
				}
			}
			if got, e := delta.Apply(v, append(many(64), d)); e != api.ErrLong || !none(got) {
				t.Errorf("Apply of too many = %v, %d", got, e)
			}
		}
		if got, e := delta.Apply(v, many(65)); e != api.ErrLong || !none(got) {
			t.Errorf("Apply of 65 = %v, %d", got, e)
		}
	}
	for _, v := range noDocs {
		for _, l := range [][]api.Delta{nil, lead, {drop("a")}, many(64)} {
			if got, e := delta.Apply(v, l); e != api.ErrValue || !none(got) {
				t.Errorf("Apply(%v, %v) = %v, %d", v, l, got, e)
			}
		}
	}
	for _, l := range [][]api.Delta{lead, {set("b", null), set("c.1", null), drop("c")}, {set("c.x", null)}, {drop("c"), set("c", null), set("c.0", null)}, {cut("c", 0), set("c.1", null)}} {
		if got, e := delta.Apply(one("c", array()), l); e != api.ErrPath || !none(got) {
			t.Errorf("Apply(.., %v) = %v, %d", l, got, e)
		}
	}
}

// P6.4: a free list done a second time; two free lists in any order.

func TestFreeListsTwiceAndInAnyOrder(t *testing.T) {
	of := []api.Delta{set("a", array(number(1))), set("a.b", null), set("a.0", number(2)), set("a.1", number(3)), set("b.c", number(4)), set("b.d", number(5)), set("c", number(6)), drop("a"), drop("a.0"), drop("b"), drop("b.c"), cut("a", 1), cut("b", 1), cut("b.c", 0)}
	docs := []api.Value{doc(nil), one("a", array(number(7), number(8))), doc(steps("c", "b", "a"), null, doc(steps("c", "e"), array(null, null), null), one("b", null))}
	done, turned := 0, 0
	for _, v := range docs {
		someLists(of, 3, func(l []api.Delta) {
			once, e := delta.Apply(v, l)
			if e != api.OK || !delta.Free(l) {
				return
			}
			done++
			if twice, e := delta.Apply(once, l); e != api.OK || !alike(twice, once) {
				t.Fatalf("%v done twice to %v: %v, %d, not %v", l, v, twice, e, once)
			}
			for i := range l {
				other := slices.Concat(l[i:], l[:i])
				if got, e := delta.Apply(v, other); e == api.OK {
					turned++
					if !value.Same(sorted(got), sorted(once)) {
						t.Fatalf("%v behind %v: %v, the other way round %v", l[i:], l[:i], once, got)
					}
				}
			}
		})
	}
	if done < 500 || turned < 1000 {
		t.Error("just so many:", done, turned)
	}
}

// sorted is v with all documents' items by names.
func sorted(v api.Value) api.Value {
	out := api.Value{Kind: v.Kind, Int: v.Int, Text: v.Text, Names: slices.Sorted(slices.Values(v.Names))}
	for i, x := range v.Items {
		if v.Kind == api.KindDoc {
			x = v.Items[slices.Index(v.Names, out.Names[i])]
		}
		out.Items = append(out.Items, sorted(x))
	}
	return out
}

// What is handed in is not changed and not kept; what is answered is new memory.

func TestNothingIsChangedAndAnswersAreNewMemory(t *testing.T) {
	v := doc(steps("a", "b"), array(number(1), array(number(2)), number(3)), one("c", null))
	w := doc(steps("b", "a", "d"), doc(steps("c", "e"), number(1), array(null)), array(number(1), array(number(4))), one("f", array(null)))
	lists := [][]api.Delta{nil, {set("a.0", array(number(5))), drop("b"), cut("a", 2)}, {set("c.d", one("e", array(null))), cut("a.1", 0)}, {set("a", number(1)), set("a.b", null)}, append(good(), wrong()...)}
	for _, was := range lists {
		l, handed, other, p := sample.RoomyDeltas(was), sample.Roomy(v), sample.Roomy(w), sample.RoomySteps(steps("a", "b"))
		untouched := func() bool {
			return sample.UntouchedDeltas(l, was) && sample.Untouched(handed, v) && sample.Untouched(other, w) && slices.Equal(p[:4], steps("a", "b", "room", "room"))
		}
		got, _ := delta.Apply(handed, l)
		copied := delta.Clone(l)
		code := delta.Put(nil, l)
		diff, _ := delta.Diff(handed, other)
		delta.Check(l)
		delta.Free(l)
		delta.Touches(l, p)
		delta.Same(l, l)
		if !untouched() {
			t.Fatalf("what was handed in with %v is changed", was)
		}
		wantDoc, wantList, wantCode, wantDiff := value.Clone(got), delta.Clone(copied), slices.Clone(code), delta.Clone(diff)
		more, _ := delta.Apply(handed, l)
		sample.Spoil(more)
		moreDiff, _ := delta.Diff(handed, other)
		spoilList(moreDiff)
		spoilList(delta.Clone(l))
		if !untouched() {
			t.Fatalf("an answer with %v is memory that was handed in", was)
		}
		spoilList(l)
		sample.Spoil(handed)
		sample.Spoil(other)
		if !alike(got, wantDoc) || !sameList(copied, wantList) || !slices.Equal(code, wantCode) || !sameList(diff, wantDiff) {
			t.Fatalf("an answer with %v changes with what was handed in", was)
		}
	}
}

func TestNoTwoListsOfAnAnswerAreOne(t *testing.T) {
	inner, p := array(number(1)), steps("a", "b")
	same := api.Delta{Kind: api.DeltaSet, Path: p, Value: array(inner, inner)}
	l := delta.Clone([]api.Delta{same, same})
	l[0].Path[0] = "x"
	l[0].Value.Items[0].Items[0] = null
	if !sameList(l[1:], []api.Delta{same}) || !alike(l[0].Value.Items[1], inner) {
		t.Error("two lists of a clone are one:", l)
	}
	got, _ := delta.Apply(doc(nil), []api.Delta{set("a", inner), set("b", inner), set("c", array(inner, inner))})
	got.Items[0].Items[0] = null
	got.Items[2].Items[0].Items[0] = null
	if !alike(got.Items[1], inner) || !alike(got.Items[2].Items[1], inner) {
		t.Error("two lists of a document are one:", got)
	}
	first, _ := delta.Diff(doc(nil), doc(steps("a", "b"), inner, array(inner, inner)))
	second, _ := delta.Diff(one("a", one("b", array(null, null))), one("a", doc(steps("b", "c", "d"), array(inner, inner), inner, inner)))
	for _, l := range [][]api.Delta{first, second} {
		for i := range l {
			want := delta.Clone(l)
			spoilList(l[i : i+1 : i+1])
			if !sameList(l[:i], want[:i]) || !sameList(l[i+1:], want[i+1:]) {
				t.Error("two lists of a difference are one:", l, want)
			}
			copy(l, want)
		}
	}
}
