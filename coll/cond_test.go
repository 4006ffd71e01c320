package coll_test

import (
	"math"
	"slices"
	"strings"
	"testing"

	"tributary/api"
	"tributary/coll"
	"tributary/sample"
)

// The makers of conditions, by short names.
var cond, hasAt, conds = sample.Cond, sample.Has, sample.Conds

func eq(p string, v api.Value) api.Cond   { return cond(api.CondEq, p, v) }
func less(p string, v api.Value) api.Cond { return cond(api.CondLess, p, v) }
func more(p string, v api.Value) api.Cond { return cond(api.CondMore, p, v) }
func is(p string, kind int) api.Cond      { return cond(api.CondIs, p, number(kind)) }
func and(l ...api.Cond) api.Cond          { return conds(api.CondAnd, l...) }
func or(l ...api.Cond) api.Cond           { return conds(api.CondOr, l...) }
func not(l ...api.Cond) api.Cond          { return conds(api.CondNot, l...) }

// ever is {}, which always holds.
var ever = api.Cond{}

// far is a path of as many steps as there may be, each but one as long as it may be.
var far = strings.Repeat(letters(32)+".", 7) + "0"

// goodConds are conditions that may be.
func goodConds() []api.Cond {
	l := []api.Cond{
		hasAt("a"), hasAt("a.0.b"), hasAt(far), hasAt("_id"), is("a", 1), is("a", 7), is(far, 4),
		{Kind: api.CondHas, Path: []string{"a"}, Value: api.Value{Items: []api.Value{}, Names: []string{}}, Of: []api.Cond{}},
		{Kind: api.CondEq, Path: []string{"a"}, Value: null, Of: []api.Cond{}},
		{Kind: api.CondNot, Path: []string{}, Of: []api.Cond{hasAt("a")}},
		and(hasAt("a")), or(hasAt("a")), not(hasAt("a")), and(hasAt("a"), hasAt("a"), hasAt("b")), or(is("a", 1), eq("b", null)),
		and(or(not(hasAt("a")))), not(not(not(hasAt("a")))), or(hasAt("a"), and(hasAt("b"), not(less("c", null)))),
		and(slices.Repeat([]api.Cond{hasAt("a")}, 31)...), or(slices.Repeat([]api.Cond{hasAt("a")}, 31)...),
		and(not(hasAt("a")), or(slices.Repeat([]api.Cond{hasAt("a")}, 28)...)),
		not(or(slices.Repeat([]api.Cond{not(hasAt("a"))}, 15)...)),
	}
	for _, kind := range []int{api.CondEq, api.CondLess, api.CondMore} {
		for _, v := range []api.Value{null, number(0), number(math.MinInt), text(""), {Kind: api.KindBool, Int: 1}, bytes("\x00\xff"), array(), array(null), doc(nil), one("a", null), deep(7), text(letters(4093))} {
			l = append(l, cond(kind, "a", v), cond(kind, far, v))
		}
	}
	return l
}

// wrongConds are conditions that may not be, and are not {}.
func wrongConds() []api.Cond {
	l := []api.Cond{
		{Kind: 9}, {Kind: -1}, {Kind: math.MaxInt}, {Path: []string{"a"}}, {Value: null}, {Value: api.Value{Int: 1}}, {Of: []api.Cond{hasAt("a")}}, {Of: []api.Cond{{}}}, cond(0, "a", null), cond(9, "a", null), cond(-1, "a", null), conds(0, hasAt("a")), conds(9, hasAt("a")),
		is("a", 0), is("a", 8), is("a", -1), is("a", math.MaxInt), cond(api.CondIs, "a", null), cond(api.CondIs, "a", text("1")), cond(api.CondIs, "a", api.Value{Kind: api.KindBool, Int: 1}), cond(api.CondIs, "a", api.Value{}), cond(api.CondIs, "a", api.Value{Int: 1}), cond(api.CondIs, "a", api.Value{Kind: api.KindInt, Int: 1, Text: "a"}), cond(api.CondIs, "a", api.Value{Kind: api.KindInt, Int: 1, Items: []api.Value{null}}),
		and(), or(), not(), not(hasAt("a"), hasAt("b")), not(hasAt("a"), api.Cond{}), and(ever), or(hasAt("a"), ever), not(ever), and(or(not(ever))),
		and(hasAt("a"), hasAt("")), or(hasAt(""), hasAt("a")), not(not(hasAt("a.")))}
	for _, kind := range []int{api.CondEq, api.CondLess, api.CondMore} {
		for _, v := range []api.Value{{}, {Kind: 8}, {Int: 1}, {Kind: api.KindBool, Int: 2}, deep(8), text(letters(4094)), array(api.Value{}), doc([]string{"b", "b"}, null, null)} {
			l = append(l, cond(kind, "a", v))
		}
	}
	for _, v := range []api.Value{null, number(1), {Int: 1}, {Text: "a"}, {Items: []api.Value{{}}}, {Names: []string{""}}, {Kind: -1}} {
		l = append(l, cond(api.CondHas, "a", v))
		for _, kind := range []int{api.CondAnd, api.CondOr, api.CondNot} {
			l = append(l, api.Cond{Kind: kind, Value: v, Of: []api.Cond{hasAt("a")}})
		}
	}
	for _, c := range []api.Cond{eq("a", null), less("a", null), more("a", null), is("a", 1), hasAt("a")} {
		for _, p := range [][]string{nil, {}, {""}, {"a", ""}, {"a.b"}, {"$"}, {letters(33)}, slices.Repeat([]string{"a"}, 9)} {
			c.Path = p
			l = append(l, c)
		}
		c.Path = []string{"a"}
		for _, of := range [][]api.Cond{{hasAt("b")}, {{}}} {
			c.Of = of
			l = append(l, c)
		}
	}
	for _, kind := range []int{api.CondAnd, api.CondOr, api.CondNot} {
		for _, p := range [][]string{{"a"}, {""}} {
			l = append(l, api.Cond{Kind: kind, Path: p, Of: []api.Cond{hasAt("a")}})
		}
	}
	return append(l, largeConds()...)
}

// largeConds are conditions that are too deep, or of too many.
func largeConds() []api.Cond {
	many := slices.Repeat([]api.Cond{hasAt("a")}, 40)
	below := not(hasAt("a"))
	for range 30000 {
		below = not(below)
	}
	wide := hasAt("a")
	for range 200 {
		wide = and(wide, wide, wide)
	}
	return []api.Cond{
		not(not(not(not(hasAt("a"))))), and(hasAt("a"), or(hasAt("a"), and(hasAt("a"), not(hasAt("a")), or(hasAt("a"))))), below, wide,
		and(many[:32]...), or(many...), and(or(many[:30]...), hasAt("a")), or(hasAt("a"), or(many[:30]...)), not(and(many[:31]...)), and(or(many[:15]...), or(many[:15]...)), and(slices.Repeat([]api.Cond{not(hasAt("a"))}, 16)...), and(many[0], or(many[0], and(many[:29]...))),
	}
}

// P14.5: May, and what Holds, Select and Count refuse.

func TestMay(t *testing.T) {
	d := fill(t, "c", item(null))
	v := one("a", null)
	for _, c := range goodConds() {
		l, e := d.Select("c", api.Query{Cond: c, Most: 1})
		n, f := d.Count("c", c)
		if !coll.May(c) || e != api.OK || f != api.OK || len(l) != n || coll.Holds(v, not(c)) == coll.Holds(v, c) && coll.May(not(c)) {
			t.Errorf("%s may be: %v, %d, %d", show(c), coll.May(c), e, f)
		}
	}
	for _, c := range wrongConds() {
		l, e := d.Select("c", api.Query{Cond: c, Most: 1})
		n, f := d.Count("c", c)
		if coll.May(c) || coll.Holds(v, c) || coll.Holds(v, not(c)) || e != api.ErrCond || f != api.ErrCond || len(l) != 0 || n != 0 {
			t.Errorf("%s may not be: %v, %v, %d, %d", show(c), coll.May(c), coll.Holds(v, c), e, f)
		}
	}
	n, e := d.Count("c", ever)
	if coll.May(ever) || coll.May(api.Cond{Path: []string{}, Of: []api.Cond{}}) || n != 1 || e != api.OK {
		t.Errorf("{} may not be, and always holds: %v, %d, %d", coll.May(ever), n, e)
	}
}

func TestMayCountsAllAndGoesDeep(t *testing.T) {
	for ands := 1; ands < 9; ands++ {
		for n := 1; n < 9; n++ {
			c := and(slices.Repeat([]api.Cond{or(slices.Repeat([]api.Cond{hasAt("a")}, n)...)}, ands)...)
			if want := 1+ands*(1+n) <= 32; coll.May(c) != want {
				t.Errorf("May of %d conditions is %v", 1+ands*(1+n), !want)
			}
		}
	}
	for depth := range 8 {
		c := hasAt("a")
		for i := range depth {
			c = []api.Cond{and(c), or(c, hasAt("b")), not(c)}[i%3]
		}
		if want := depth < 4; coll.May(c) != want {
			t.Errorf("May of conditions %d deep is %v", depth+1, !want)
		}
	}
}

// P14.5: Holds.

func TestHolds(t *testing.T) {
	v := doc([]string{"n", "t", "b", "l", "d", "z", "y", "e"}, number(5), text("m"), bytes("m"), array(number(1), one("x", text("q")), array()), doc([]string{"x", "y"}, number(1), null), null, api.Value{Kind: api.KindBool, Int: 1}, doc(nil))
	for _, c := range []struct {
		c    api.Cond
		want bool
	}{
		{ever, true}, {api.Cond{Path: []string{}, Of: []api.Cond{}, Value: api.Value{Items: []api.Value{}}}, true},
		{hasAt("n"), true}, {hasAt("z"), true}, {hasAt("m"), false}, {hasAt("n.a"), false}, {hasAt("l.0"), true}, {hasAt("l.3"), false}, {hasAt("l.00"), false}, {hasAt("l.1.x"), true}, {hasAt("l.x"), false}, {hasAt("d.y"), true}, {hasAt("d.z"), false}, {hasAt("e"), true},
		{eq("n", number(5)), true}, {eq("n", number(4)), false}, {eq("n", text("5")), false}, {eq("t", text("m")), true}, {eq("t", bytes("m")), false}, {eq("b", bytes("m")), true}, {eq("z", null), true}, {eq("m", null), false}, {eq("l.2", array()), true}, {eq("l.1", one("x", text("q"))), true}, {eq("d", doc([]string{"x", "y"}, number(1), null)), true}, {eq("d", doc([]string{"y", "x"}, null, number(1))), false}, {eq("l", array(number(1))), false}, {eq("l", number(1)), false}, {eq("d.y", null), true}, {eq("d.z", null), false}, {eq("y", api.Value{Kind: api.KindBool}), false},
		{less("n", number(6)), true}, {less("n", number(5)), false}, {less("n", number(4)), false}, {less("n", text("")), false}, {less("z", number(1)), false}, {less("t", text("n")), true}, {less("t", text("m\x00")), true}, {less("t", text("m")), false}, {less("t", text("M")), false}, {less("t", bytes("z")), false}, {less("m", number(1)), false}, {less("l", array(number(2))), true}, {less("l", array(number(1))), false}, {less("d", doc([]string{"x", "y"}, number(2), null)), true}, {less("z", null), false}, {less("y", api.Value{Kind: api.KindBool, Int: 1}), false}, {less("l.2", array(null)), true},
		{more("n", number(4)), true}, {more("n", number(5)), false}, {more("n", number(6)), false}, {more("n", null), false}, {more("t", number(9)), false}, {more("t", text("l")), true}, {more("t", text("")), true}, {more("t", text("m")), false}, {more("b", text("a")), false}, {more("m", null), false}, {more("l", array(number(1))), true}, {more("d", doc(nil)), true}, {more("d", array()), false}, {more("y", api.Value{Kind: api.KindBool}), true}, {more("e", doc(nil)), false},
		{is("z", 1), true}, {is("y", 2), true}, {is("n", 3), true}, {is("t", 4), true}, {is("b", 5), true}, {is("l", 6), true}, {is("d", 7), true}, {is("e", 7), true}, {is("l.2", 6), true}, {is("m", 1), false}, {is("n", 1), false}, {is("n", 5), false}, {is("t", 5), false}, {is("d", 6), false},
		{and(hasAt("n")), true}, {and(hasAt("n"), hasAt("t"), hasAt("b")), true}, {and(hasAt("m"), hasAt("t"), hasAt("b")), false}, {and(hasAt("n"), hasAt("m"), hasAt("b")), false}, {and(hasAt("n"), hasAt("t"), hasAt("m")), false},
		{or(hasAt("n")), true}, {or(hasAt("m")), false}, {or(hasAt("m"), hasAt("k")), false}, {or(hasAt("n"), hasAt("m")), true}, {or(hasAt("m"), hasAt("k"), hasAt("n")), true},
		{not(hasAt("m")), true}, {not(hasAt("n")), false}, {not(eq("m", null)), true}, {not(less("m", number(1))), true}, {not(not(hasAt("n"))), true},
		{and(or(hasAt("m"), eq("n", number(5))), not(and(hasAt("n"), hasAt("m")))), true}, {or(and(hasAt("n"), hasAt("m")), not(or(hasAt("m"), hasAt("n")))), false},
	} {
		if got := coll.Holds(v, c.c); got != c.want {
			t.Errorf("%s holds: %v", show(c.c), got)
		}
		d := fill(t, "c", doc(append([]string{"_id"}, v.Names...), append([]api.Value{null}, v.Items...)...))
		n, e := d.Count("c", c.c)
		l, f := d.Select("c", api.Query{Cond: c.c, Most: 1})
		if e != api.OK || f != api.OK || (n == 1) != c.want || (len(l) == 1) != c.want {
			t.Errorf("%s holds of %d documents, and of %d: %d, %d", show(c.c), n, len(l), e, f)
		}
	}
}

func TestHoldsOfWhatIsNoDocument(t *testing.T) {
	for _, v := range []api.Value{{}, null, number(1), text("a"), array(one("a", null)), {Kind: api.KindArray, Items: []api.Value{null}, Names: []string{"a"}}, one("a", api.Value{}), doc([]string{"a", "a"}, null, null), doc([]string{"a", "$"}, null, null), doc([]string{"a"}), {Kind: api.KindDoc, Int: 1}, {Kind: 8}, one("a", one("b", api.Value{Kind: 8}))} {
		for _, c := range []api.Cond{ever, hasAt("a"), not(hasAt("a")), not(hasAt("b")), eq("a", null), is("a", 1)} {
			if coll.Holds(v, c) {
				t.Errorf("%s holds of %s", show(c), show(v))
			}
		}
	}
	// These may be, and are not whole.
	for _, v := range []api.Value{one("a", sample.Deep(30000)), one("a", text(letters(5000))), doc([]string{"b", "a"}, deep(8), array())} {
		for _, c := range []api.Cond{ever, hasAt("a"), not(hasAt("c")), or(is("a", 6), is("a", 4))} {
			if !coll.Holds(v, c) {
				t.Errorf("%s does not hold", show(c))
			}
		}
	}
	if coll.Holds(one("a", null), not(ever)) || !coll.Holds(doc(nil), ever) || coll.Holds(doc(nil), hasAt("a")) {
		t.Error("Holds of nothing")
	}
}

// truth tells what c says, plainly, where at are the conditions that hold of those that are of a path.
func truth(c api.Cond, at func(c api.Cond) bool) bool {
	held := 0
	for _, x := range c.Of {
		if truth(x, at) {
			held++
		}
	}
	switch c.Kind {
	case api.CondAnd:
		return held == len(c.Of)
	case api.CondOr:
		return held > 0
	case api.CondNot:
		return held == 0
	}
	return at(c)
}

func TestHoldsByChance(t *testing.T) {
	chance := sample.Chance(11)
	var any func(levels int) api.Cond
	any = func(levels int) api.Cond {
		if levels == 0 || chance.Below(3) == 0 {
			return hasAt(string(rune('a' + chance.Below(4))))
		}
		c := api.Cond{Kind: api.CondAnd + chance.Below(3)}
		n := 1
		if c.Kind != api.CondNot {
			n += chance.Below(3)
		}
		for range n {
			c.Of = append(c.Of, any(levels-1))
		}
		return c
	}
	found := map[bool]int{}
	for range 3000 {
		c := any(3)
		if !coll.May(c) {
			continue
		}
		for bits := range 16 {
			v := doc(nil)
			for i := range 4 {
				if bits>>i&1 == 1 {
					v.Names, v.Items = append(v.Names, string(rune('a'+i))), append(v.Items, null)
				}
			}
			want := truth(c, func(c api.Cond) bool { return slices.Contains(v.Names, c.Path[0]) })
			found[want]++
			if coll.Holds(v, c) != want {
				t.Fatalf("%s holds of %s: %v", show(c), show(v), !want)
			}
		}
	}
	if found[true] < 5000 || found[false] < 5000 {
		t.Error("just so many:", found)
	}
}

func TestConditionsAreNotChanged(t *testing.T) {
	d := fill(t, "c", item(array(null)), item(number(1), one("b", array(null))))
	for _, was := range append(goodConds()[:20], wrongConds()[:20]...) {
		c, v := sample.RoomyCond(was), sample.Roomy(one("a", array(null)))
		coll.May(c)
		coll.Holds(v, c)
		d.Count("c", c)
		sort := sample.RoomySteps([]string{"a", "b"})
		l, _ := d.Select("c", api.Query{Cond: c, Sort: sort, Most: 5, Down: true})
		for _, x := range l {
			sample.Spoil(x)
		}
		if !sample.UntouchedCond(c, was) || !sample.Untouched(v, one("a", array(null))) || !slices.Equal(sort[:cap(sort)], sample.RoomySteps([]string{"a", "b"})[:cap(sort)]) {
			t.Errorf("what was handed in is changed: %s", show(was))
		}
	}
	has(t, d, "c", item(number(1), one("b", array(null))), item(array(null)))
}
