package coll_test

import (
	"math"
	"slices"
	"testing"

	"tributary/api"
	"tributary/coll"
	"tributary/sample"
	"tributary/value"
)

// P14.5: Select and Count; P14.6: Skip and Most cut a part out, Down turns it round.

// numbers answers the ids of documents, which must be numbers.
func numbers(l []api.Value) []int {
	var out []int
	for _, v := range l {
		out = append(out, v.Items[slices.Index(v.Names, "_id")].Int)
	}
	return out
}

// people are documents of which some have nothing at a, or the same.
func people() []api.Value {
	return []api.Value{
		item(number(1), text("b")), item(number(2), number(7)), item(number(3)), item(number(4), text("a")), item(number(5), number(7)), item(number(6), null),
		item(number(7)), item(number(8), array(number(1))), item(number(9), one("x", number(2))), item(number(10), one("x", number(1))), item(number(11), number(-7)),
	}
}

func TestSelect(t *testing.T) {
	d := fill(t, "c other", people()...)
	sort, x := []string{"a"}, []string{"a", "x"}
	some := or(is("a", api.KindInt), not(hasAt("a")), eq("a", null))
	for _, c := range []struct {
		q    api.Query
		want []int
	}{
		{api.Query{Most: 256}, []int{1, 2, 3, 4, 5, 6, 7, 8, 9, 10, 11}},
		{api.Query{Most: 3}, []int{1, 2, 3}},
		{api.Query{Most: 3, Skip: 2}, []int{3, 4, 5}},
		{api.Query{Most: 3, Skip: 10}, []int{11}},
		{api.Query{Most: 3, Skip: 11}, nil},
		{api.Query{Most: 256, Skip: 1 << 30}, nil},
		{api.Query{Most: 3, Down: true}, []int{11, 10, 9}},
		{api.Query{Most: 2, Skip: 9, Down: true}, []int{2, 1}},
		{api.Query{Most: 99, Sort: sort}, []int{3, 7, 6, 11, 2, 5, 4, 1, 8, 10, 9}},
		{api.Query{Most: 99, Sort: sort, Down: true}, []int{9, 10, 8, 1, 4, 5, 2, 11, 6, 7, 3}},
		{api.Query{Most: 4, Skip: 1, Sort: sort}, []int{7, 6, 11, 2}},
		{api.Query{Most: 4, Skip: 1, Sort: sort, Down: true}, []int{10, 8, 1, 4}},
		{api.Query{Most: 99, Sort: x}, []int{1, 2, 3, 4, 5, 6, 7, 8, 11, 10, 9}},
		{api.Query{Most: 99, Sort: x, Down: true}, []int{9, 10, 11, 8, 7, 6, 5, 4, 3, 2, 1}},
		{api.Query{Most: 99, Sort: []string{"_id"}}, []int{1, 2, 3, 4, 5, 6, 7, 8, 9, 10, 11}},
		{api.Query{Most: 99, Sort: []string{"no"}}, []int{1, 2, 3, 4, 5, 6, 7, 8, 9, 10, 11}},
		{api.Query{Most: 99, Sort: []string{}, Cond: api.Cond{Path: []string{}}}, []int{1, 2, 3, 4, 5, 6, 7, 8, 9, 10, 11}},
		{api.Query{Most: 99, Cond: is("a", api.KindInt)}, []int{2, 5, 11}},
		{api.Query{Most: 2, Cond: is("a", api.KindInt), Down: true}, []int{11, 5}},
		{api.Query{Most: 99, Cond: some, Sort: sort}, []int{3, 7, 6, 11, 2, 5}},
		{api.Query{Most: 2, Skip: 1, Cond: some, Sort: sort, Down: true}, []int{2, 11}},
		{api.Query{Most: 99, Cond: hasAt("no"), Sort: sort}, nil},
		{api.Query{Most: 1, Skip: 1, Cond: less("_id", number(3))}, []int{2}},
	} {
		l, e := d.Select("c", c.q)
		if got := numbers(l); e != api.OK || !slices.Equal(got, c.want) {
			t.Errorf("Select(%s) = %v, %d, want %v", show(c.q), got, e, c.want)
		}
		for _, v := range l {
			if !alike(v, people()[v.Items[0].Int-1]) {
				t.Errorf("Select tells %s", show(v))
			}
		}
	}
	has(t, d, "c", people()...)
}

func TestSelectRefuses(t *testing.T) {
	d := fill(t, "c empty", people()...)
	want(t, "Drop", d.Drop("empty"), api.OK)
	want(t, "Create", d.Create("empty"), api.OK)
	for _, q := range []api.Query{
		{}, {Most: 0, Skip: 1}, {Most: -1}, {Most: 257}, {Most: math.MaxInt}, {Most: math.MinInt}, {Most: 1, Skip: -1}, {Most: 1, Skip: 1<<30 + 1}, {Most: 1, Skip: math.MaxInt}, {Most: 1, Skip: math.MinInt},
		{Most: 1, Sort: []string{""}}, {Most: 1, Sort: []string{"a.b"}}, {Most: 1, Sort: []string{"a", "$"}}, {Most: 1, Sort: slices.Repeat([]string{"a"}, 9)},
		{Most: 1, Cond: api.Cond{Kind: 9}}, {Most: 1, Cond: and()}, {Most: 1, Cond: not(ever)}, {Most: 1, Cond: eq("a", api.Value{})},
	} {
		for name, wanted := range map[string]api.Errno{"c": api.ErrCond, "empty": api.ErrCond, "x": api.ErrColl, "": api.ErrColl} {
			if l, e := d.Select(name, q); e != wanted || len(l) != 0 {
				t.Errorf("Select(%s, %s) = %s, %d", name, show(q), show(l), e)
			}
		}
	}
	for _, q := range []api.Query{{Most: 1}, {Most: 256}, {Most: 1, Skip: 1 << 30}, {Most: 1, Down: true, Sort: slices.Repeat([]string{"a"}, 8)}} {
		l, e := d.Select("empty", q)
		_, f := d.Select("c", q)
		_, g := d.Select("x", q)
		if e != api.OK || len(l) != 0 || f != api.OK || g != api.ErrColl {
			t.Errorf("Select(%s) = %s, %d, %d, %d", show(q), show(l), e, f, g)
		}
	}
}

func TestCount(t *testing.T) {
	d := fill(t, "c empty", people()...)
	for _, name := range []string{"1", "2", "3"} {
		want(t, "Create", d.Create(name), api.OK)
	}
	for _, c := range []struct {
		name string
		c    api.Cond
		n    int
		e    api.Errno
	}{
		{"c", ever, 11, api.OK}, {"c", hasAt("a"), 9, api.OK}, {"c", not(hasAt("a")), 2, api.OK}, {"c", eq("a", number(7)), 2, api.OK}, {"c", hasAt("no"), 0, api.OK}, {"c", more("_id", number(4)), 7, api.OK}, {"1", ever, 0, api.OK},
		{"x", ever, 0, api.ErrColl}, {"", hasAt("a"), 0, api.ErrColl}, {"x", api.Cond{Kind: 9}, 0, api.ErrColl}, {"c", api.Cond{Kind: 9}, 0, api.ErrCond}, {"1", and(), 0, api.ErrCond}, {"c", not(ever), 0, api.ErrCond},
	} {
		if n, e := d.Count(c.name, c.c); n != c.n || e != c.e {
			t.Errorf("Count(%s, %s) = %d, %d, want %d, %d", c.name, show(c.c), n, e, c.n, c.e)
		}
	}
	has(t, d, "c", people()...)
}

func TestSelectOfMany(t *testing.T) {
	d := fill(t, "c")
	for i := range 256 {
		want(t, "Insert", d.Insert("c", item(number(i*77%256), number(i%10))), api.OK)
	}
	for _, q := range []api.Query{{Most: 256}, {Most: 256, Sort: []string{"a"}}, {Most: 255, Skip: 1, Sort: []string{"a"}, Down: true}, {Most: 1, Skip: 255}} {
		l, e := d.Select("c", q)
		if e != api.OK || len(l) != min(q.Most, 256-q.Skip) {
			t.Errorf("Select(%s) tells %d, %d", show(q), len(l), e)
		}
	}
	if n, e := d.Count("c", eq("a", number(5))); n != 26 || e != api.OK {
		t.Errorf("Count = %d, %d", n, e)
	}
}

// at answers what a document's item says, and whether there is one.
func at(v api.Value, name string) (api.Value, bool) {
	i := slices.Index(v.Names, name)
	if i < 0 {
		return api.Value{}, false
	}
	return v.Items[i], true
}

// ahead tells whether v stands ahead of w, by what lies at an item, and by ids.
func ahead(v, w api.Value, name string) bool {
	x, is := at(v, name)
	y, other := at(w, name)
	c := value.Compare(x, y)
	switch {
	case !is && other:
		return true
	case is && !other:
		return false
	case is && other && c != 0:
		return c < 0
	}
	a, _ := at(v, "_id")
	b, _ := at(w, "_id")
	return value.Compare(a, b) < 0
}

// told is what a query tells, plainly: of each document it is asked how many are to stand ahead of it.
func told(l []api.Value, q api.Query) []api.Value {
	l = slices.DeleteFunc(slices.Clone(l), func(v api.Value) bool { return !coll.Holds(v, q.Cond) })
	name := append(q.Sort, "")[0]
	out := make([]api.Value, len(l))
	for _, v := range l {
		n := 0
		for _, w := range l {
			if ahead(w, v, name) {
				n++
			}
		}
		if q.Down {
			n = len(l) - 1 - n
		}
		out[n] = v
	}
	from := min(q.Skip, len(out))
	return out[from:min(from+q.Most, len(out))]
}

func TestSelectAgainstTheWords(t *testing.T) {
	chance := sample.Chance(23)
	conditions := []api.Cond{ever, hasAt("a"), not(hasAt("a")), less("a", number(2)), or(eq("b", null), is("a", api.KindText)), more("_id", number(5))}
	few := []api.Value{null, number(1), number(2), number(3), text("a"), text("b"), array(), array(null), one("a", null)}
	for range 60 {
		d := fill(t, "c")
		for range chance.Below(24) {
			v := one("_id", few[chance.Below(len(few))])
			if chance.Below(2) == 0 {
				v.Items[0] = number(chance.Below(40))
			}
			for _, name := range []string{"a", "b"} {
				if chance.Below(3) > 0 {
					v.Names, v.Items = append(v.Names, name), append(v.Items, few[chance.Below(len(few))])
				}
			}
			d.Insert("c", v)
		}
		l := all(d, "c")
		for _, c := range conditions {
			for _, sort := range [][]string{nil, {"a"}, {"b"}, {"_id"}} {
				for _, down := range []bool{false, true} {
					q := api.Query{Cond: c, Sort: sort, Down: down, Skip: chance.Below(6) * chance.Below(6), Most: 1 + chance.Below(12)*chance.Below(12)}
					got, e := d.Select("c", q)
					if want := told(l, q); e != api.OK || !slices.EqualFunc(got, want, alike) {
						t.Fatalf("Select(%s) of %s = %s, %d, want %s", show(q), show(l), show(got), e, show(want))
					}
					if n, e := d.Count("c", c); e != api.OK || n != len(told(l, api.Query{Cond: c, Most: 256})) {
						t.Fatalf("Count(%s) of %s = %d, %d", show(c), show(l), n, e)
					}
				}
			}
		}
	}
}

func TestSkipAndMostCutAndDownTurnsRound(t *testing.T) {
	d := fill(t, "c", people()...)
	for _, q := range []api.Query{{}, {Sort: []string{"a"}}, {Sort: []string{"a", "x"}}, {Cond: hasAt("a"), Sort: []string{"a"}}, {Cond: hasAt("no")}} {
		q.Most = 256
		whole, _ := d.Select("c", q)
		turned := slices.Clone(whole)
		slices.Reverse(turned)
		for _, full := range [][]api.Value{whole, turned} {
			for skip := range 14 {
				for most := 1; most < 14; most++ {
					q.Skip, q.Most = skip, most
					got, e := d.Select("c", q)
					from := min(skip, len(full))
					if want := full[from:min(from+most, len(full))]; e != api.OK || !slices.EqualFunc(got, want, alike) {
						t.Fatalf("Select(%s) = %s, %d", show(q), show(got), e)
					}
				}
			}
			q.Down = true
		}
	}
}
