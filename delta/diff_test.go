package delta_test

import (
	"fmt"
	"slices"
	"strings"
	"testing"

	"tributary/api"
	"tributary/delta"
	"tributary/sample"
	"tributary/value"
)

// P6.5: Diff; P6.6: done to a, it makes a document with b's items.

// nulls is an array of n nulls.
func nulls(n int) api.Value { return array(slices.Repeat([]api.Value{null}, n)...) }

// numbered is a document of n numbers.
func numbered(n int) api.Value {
	v := doc(nil)
	for i := range n {
		v.Names, v.Items = append(v.Names, fmt.Sprint("n", i)), append(v.Items, number(i))
	}
	return v
}

// within lays v at the path, in documents.
func within(p string, v api.Value) api.Value { return sample.Within(v, strings.Split(p, ".")...) }

func TestDiff(t *testing.T) {
	one2 := func(x, y api.Value) api.Value { return doc(steps("x", "y"), x, y) }
	for i, c := range []struct {
		a, b api.Value
		want []api.Delta
	}{
		{doc(nil), doc(nil), nil},
		{one("a", number(1)), one("a", number(1)), nil},
		{one("a", number(1)), one("a", number(2)), []api.Delta{set("a", number(2))}},
		{one("a", number(1)), one("b", number(1)), []api.Delta{drop("a"), set("b", number(1))}},
		{doc(steps("c", "a", "b"), null, null, null), doc(nil), []api.Delta{drop("c"), drop("a"), drop("b")}},
		{doc(nil), doc(steps("c", "a", "b"), null, number(1), doc(nil)), []api.Delta{set("c", null), set("a", number(1)), set("b", doc(nil))}},
		{doc(steps("a", "b", "c"), number(1), number(2), number(3)), doc(steps("c", "b", "a"), number(3), number(2), number(1)), nil},
		{doc(steps("a", "b", "c"), number(1), number(2), number(3)), doc(steps("d", "c", "b"), number(9), number(4), number(2)), []api.Delta{drop("a"), set("d", number(9)), set("c", number(4))}},
		{one("a", one2(null, one2(null, null))), one("a", one2(number(1), one2(null, number(2)))), []api.Delta{set("a.x", number(1)), set("a.y.y", number(2))}},
		{one("a", one2(null, null)), one("a", doc(steps("z", "y"), null, one("k", null))), []api.Delta{drop("a.x"), set("a.z", null), set("a.y", one("k", null))}},
		{one("a", one("x", null)), one("a", doc(nil)), []api.Delta{drop("a.x")}},
		{one("a", doc(nil)), one("a", array()), []api.Delta{set("a", array())}},
		{one("a", array(null)), one("a", doc(steps("0"), null)), []api.Delta{set("a", doc(steps("0"), null))}},
		{one("a", number(0)), one("a", text("")), []api.Delta{set("a", text(""))}},
		{one("a", text("x")), one("a", api.Value{Kind: api.KindBytes, Text: "x"}), []api.Delta{set("a", api.Value{Kind: api.KindBytes, Text: "x"})}},
		{one("a", array(number(1), number(2), number(3))), one("a", array(number(1), number(2))), []api.Delta{cut("a", 2)}},
		{one("a", array(number(1), number(2), number(3))), one("a", array()), []api.Delta{cut("a", 0)}},
		{one("a", array(number(1), number(2), number(3))), one("a", array(number(3))), []api.Delta{cut("a", 1), set("a.0", number(3))}},
		{one("a", array(number(1))), one("a", array(number(1), number(2), number(3))), []api.Delta{set("a.1", number(2)), set("a.2", number(3))}},
		{one("a", array(number(1), number(2))), one("a", array(number(9), number(2), number(8))), []api.Delta{set("a.0", number(9)), set("a.2", number(8))}},
		{one("a", array()), one("a", array()), nil},
		{one("a", array(one("b", array(number(1))), null)), one("a", array(one("b", array(number(1))), null)), nil},
		{one("a", array(one("b", array(number(1))), null)), one("a", array(one("b", array(number(2))), null)), []api.Delta{set("a.0", one("b", array(number(2))))}},
		{one("a", array(array(null, null))), one("a", array(array(null))), []api.Delta{set("a.0", array(null))}},
		{one("a", array(one2(null, number(1)))), one("a", array(doc(steps("y", "x"), number(1), null))), []api.Delta{set("a.0", doc(steps("y", "x"), number(1), null))}},
		{one("a", one("b", array(one("c", null)))), one("a", one("b", array(one("c", null), one("d", array(null))))), []api.Delta{set("a.b.1", one("d", array(null)))}},
		{one("0", array(null)), one("0", array(number(1))), []api.Delta{set("0.0", number(1))}},
		{within("1.2.3.4.5.6.7", null), within("1.2.3.4.5.6.7", number(1)), []api.Delta{set("1.2.3.4.5.6.7", number(1))}},
		{within("1.2.3.4.5.6", nulls(1)), within("1.2.3.4.5.6", nulls(2)), []api.Delta{set("1.2.3.4.5.6.1", null)}},
		{within("1.2.3.4.5.6.7", doc(nil)), within("1.2.3.4.5.6.7", array()), []api.Delta{set("1.2.3.4.5.6.7", array())}},
		{within("1.2.3.4.5.6.7", null), within("1.2.3.4.5.6", doc(nil)), []api.Delta{drop("1.2.3.4.5.6.7")}},
		{within("1.2.3.4.5.6", nulls(1)), within("1.2.3.4.5.6", nulls(0)), []api.Delta{cut("1.2.3.4.5.6", 0)}},
		{one("a", nulls(1500)), one("a", nulls(1500)), nil},
		{one("a", nulls(1500)), one("a", nulls(999)), []api.Delta{cut("a", 999)}},
		{one("a", nulls(1000)), one("a", nulls(999)), []api.Delta{cut("a", 999)}},
		{one("a", nulls(999)), one("a", nulls(1000)), []api.Delta{set("a.999", null)}},
		{doc(nil), one("a", nulls(2000)), []api.Delta{set("a", nulls(2000))}},
		{one("a", null), one("a", nulls(2000)), []api.Delta{set("a", nulls(2000))}},
	} {
		if got, e := delta.Diff(c.a, c.b); e != api.OK || !sameList(got, c.want) {
			t.Errorf("%d: Diff(%s, %s) = %s, %d, want %s", i, show(c.a), show(c.b), show(got), e, show(c.want))
		}
	}
}

func TestDiffRefuses(t *testing.T) {
	noDocs := []api.Value{{}, null, number(1), array(one("a", null)), doc(steps("a")), doc(steps("a", "a"), null, null), one("a", api.Value{}), {Kind: 8}, one("a", deep(7)), within("1.2.3.4.5.6.7.8", null), one("a", text(letters(4096)))}
	far := [2]api.Value{one("a", nulls(1500)), one("a", nulls(1000))}
	for _, v := range noDocs {
		for _, w := range append(noDocs, doc(nil), far[0]) {
			for _, pair := range [][2]api.Value{{v, w}, {w, v}} {
				if l, e := delta.Diff(pair[0], pair[1]); e != api.ErrValue || len(l) != 0 {
					t.Errorf("Diff(%s, %s) = %s, %d", show(pair[0]), show(pair[1]), show(l), e)
				}
			}
		}
	}
	changed := func(i int) api.Value {
		v := nulls(1200)
		v.Items[i] = number(1)
		return v
	}
	two := func(x, y api.Value) api.Value { return doc(steps("x", "y"), x, y) }
	wide, wider := numbered(64), numbered(65)
	for i, c := range []struct {
		a, b api.Value
		want api.Errno
	}{
		{far[0], far[1], api.ErrPath},
		{one("a", nulls(1001)), one("a", nulls(1000)), api.ErrPath},
		{one("a", nulls(1500)), one("a", array(append(nulls(999).Items, number(1), null)...)), api.ErrPath},
		{one("a", nulls(1000)), one("a", nulls(1001)), api.ErrPath},
		{one("a", nulls(1200)), one("a", changed(1000)), api.ErrPath},
		{one("a", nulls(1200)), one("a", changed(999)), api.OK},
		{one("a", nulls(1200)), one("a", changed(1199)), api.ErrPath},
		{within("b.c", nulls(1001)), within("b.c", nulls(1000)), api.ErrPath},
		{doc(nil), wide, api.OK}, {wide, doc(nil), api.OK}, {wide, wider, api.OK}, {wider, wide, api.OK},
		{doc(nil), wider, api.ErrLong}, {wider, doc(nil), api.ErrLong},
		{one("a", nulls(0)), one("a", nulls(64)), api.OK},
		{one("a", nulls(0)), one("a", nulls(65)), api.ErrLong},
		{one("a", nulls(0)), one("a", nulls(1000)), api.ErrLong},
		{one("a", nulls(0)), one("a", nulls(1001)), api.ErrPath},
		{one("a", nulls(2000)), one("a", array(slices.Repeat([]api.Value{number(1)}, 1001)...)), api.ErrPath},
		{two(nulls(0), nulls(1001)), two(nulls(100), nulls(1000)), api.ErrPath},
		{two(nulls(1001), nulls(0)), two(nulls(1000), nulls(100)), api.ErrPath},
		{two(nulls(64), nulls(1)), two(nulls(0), array(number(1))), api.OK},
		{two(nulls(65), nulls(0)), two(array(slices.Repeat([]api.Value{number(1)}, 62)...), array(number(1))), api.OK},
		{two(nulls(65), nulls(0)), two(array(slices.Repeat([]api.Value{number(1)}, 63)...), array(number(1))), api.ErrLong},
	} {
		l, e := delta.Diff(c.a, c.b)
		if e != c.want || e != api.OK && len(l) != 0 {
			t.Errorf("%d: %s, %d, want %d", i, show(l), e, c.want)
		}
		if got, ok := delta.Apply(c.a, l); e == api.OK && (ok != api.OK || !value.Same(sorted(got), sorted(c.b))) {
			t.Errorf("%d: done to a, the difference makes %s, %d", i, show(got), ok)
		}
	}
}

// chance makes documents, always the same.
type chance struct{ sample.Chance }

// any makes a value of few things, so that many are nearly the same.
func (c *chance) any(levels int) api.Value {
	kinds := 7
	if levels == 0 {
		kinds = 5
	}
	v := api.Value{Kind: 1 + c.Below(kinds)}
	switch v.Kind {
	case api.KindBool, api.KindInt:
		v.Int = c.Below(2)
	case api.KindText, api.KindBytes:
		v.Text = strings.Repeat("a", c.Below(2))
	case api.KindArray:
		for range c.Below(4) {
			v.Items = append(v.Items, c.any(levels-1))
		}
	case api.KindDoc:
		return c.doc(levels)
	}
	return v
}

func (c *chance) doc(levels int) api.Value {
	v := doc(nil)
	for i := range c.Below(5) {
		name := fmt.Sprint((i*3 + c.Below(2)) % 5)
		if !slices.Contains(v.Names, name) {
			v.Names = append(v.Names, name)
			v.Items = append(v.Items, c.any(levels-1))
		}
	}
	return v
}

// bent is v with some things in it changed.
func (c *chance) bent(v api.Value, levels int) api.Value {
	switch {
	case c.Below(8) == 0:
		return c.any(levels)
	case v.Kind == api.KindArray:
		out := array()
		for _, x := range v.Items[:len(v.Items)-c.Below(len(v.Items)+1)/2] {
			out.Items = append(out.Items, c.bent(x, levels-1))
		}
		for range c.Below(3) / 2 {
			out.Items = append(out.Items, c.any(levels-1))
		}
		return out
	case v.Kind == api.KindDoc:
		return c.bentDoc(v, levels)
	}
	return v
}

func (c *chance) bentDoc(v api.Value, levels int) api.Value {
	out := c.doc(levels)
	out.Names, out.Items = out.Names[:min(1, len(out.Names))], out.Items[:min(1, len(out.Items))]
	turn := c.Below(len(v.Names) + 1)
	for i := range v.Names {
		k := (i + turn) % len(v.Names)
		if name := v.Names[k]; !slices.Contains(out.Names, name) && c.Below(6) > 0 {
			out.Names = append(out.Names, name)
			out.Items = append(out.Items, c.bent(v.Items[k], levels-1))
		}
	}
	return out
}

// wantDiff is what the words say, of whole documents whose difference is neither too long nor too far off.
func wantDiff(p string, a, b api.Value) []api.Delta {
	var l []api.Delta
	for _, name := range a.Names {
		if !slices.Contains(b.Names, name) {
			l = append(l, drop(p+name))
		}
	}
	for i, name := range b.Names {
		k, at, y := slices.Index(a.Names, name), p+name, b.Items[i]
		if k < 0 {
			l = append(l, set(at, y))
			continue
		}
		x := a.Items[k]
		switch {
		case x.Kind != y.Kind:
			l = append(l, set(at, y))
		case x.Kind == api.KindDoc:
			l = append(l, wantDiff(at+".", x, y)...)
		case x.Kind == api.KindArray:
			if len(x.Items) > len(y.Items) {
				l = append(l, cut(at, len(y.Items)))
			}
			for j, item := range y.Items {
				if j >= len(x.Items) || !alike(x.Items[j], item) {
					l = append(l, set(fmt.Sprint(at, ".", j), item))
				}
			}
		case !alike(x, y):
			l = append(l, set(at, y))
		}
	}
	return l
}

func TestDifferencesMakeTheOtherDocument(t *testing.T) {
	c := chance{7}
	long, kinds := 0, [4]int{}
	for range 20000 {
		a := c.doc(4)
		b := c.bentDoc(a, 4)
		if c.Below(4) == 0 {
			b = c.doc(4)
		}
		l, e := delta.Diff(a, b)
		if want := wantDiff("", a, b); e != api.OK || !sameList(l, want) {
			t.Fatalf("Diff(%v, %v) = %v, %d, want %v", a, b, l, e, want)
		}
		got, e := delta.Apply(a, l)
		if e != api.OK || !alike(sorted(got), sorted(b)) {
			t.Fatalf("%v done to %v makes %v, %d, not %v", l, a, got, e, b)
		}
		if again, e := delta.Diff(got, b); e != api.OK || len(again) != 0 {
			t.Fatalf("%v done to %v leaves %v, %d", l, a, again, e)
		}
		long = max(long, len(l))
		for _, d := range l {
			kinds[d.Kind]++
		}
	}
	if long < 8 || slices.Min(kinds[1:]) < 200 {
		t.Error("just so many:", long, kinds)
	}
}
