package value_test

import (
	"math"
	"slices"
	"strings"
	"testing"

	"tributary/api"
	"tributary/sample"
	"tributary/value"
)

// rising are values that may be, each ahead of the next one.
func rising() []api.Value {
	ab, ba := []string{"a", "b"}, []string{"b", "a"}
	bytes := func(s string) api.Value { return api.Value{Kind: api.KindBytes, Text: s} }
	texts := func(s string) api.Value { return api.Value{Kind: api.KindText, Text: s} }
	return []api.Value{
		null,
		{Kind: api.KindBool}, {Kind: api.KindBool, Int: 1},
		number(math.MinInt), number(-1 << 40), number(-2), number(-1), number(0), number(1), number(300), number(math.MaxInt),
		texts(""), texts("\x00"), texts("\x00\x00"), texts("B"), texts("a"), texts("a\x00"), texts("aa"), texts("aaaaaaaaaaaa"), texts("ab"), texts("b"), texts("\u00e9"), texts("\xff"), texts("\xff\x00"),
		bytes(""), bytes("\x00"), bytes("a"), bytes("ab"), bytes("b"), bytes("\xff"),
		array(), array(null), array(null, null), array(null, number(5)), array(number(-3), number(9)), array(number(1)), array(number(1), null), array(number(1), null, null), array(number(1), number(0)), array(number(2)), array(number(2), number(1)), array(texts("a")), array(array()), array(array(), null), array(array(null)), array(doc(nil)),
		doc(nil),
		doc([]string{"A"}, number(9)),
		doc([]string{"a"}, null), doc([]string{"a"}, number(8)),
		doc([]string{"a"}, number(9)), doc(ab, number(9), null), doc(ab, number(9), number(0)), doc([]string{"a", "c"}, number(9), null), doc([]string{"a", "c", "b"}, number(9), null, null), doc([]string{"a", "ca"}, number(9), null),
		doc([]string{"a"}, number(10)), doc(ab, number(10), null), doc([]string{"a"}, doc(nil)), doc([]string{"a"}, doc(ab, null, null)),
		doc([]string{"aa"}, null), doc([]string{"b"}, number(0)), doc(ba, number(0), number(0)), doc(ba, number(1), number(0)), doc([]string{"b"}, number(2)), doc([]string{"\xff"}, null),
	}
}

func TestCompare(t *testing.T) {
	l, again := rising(), rising()
	for i, a := range l {
		for k, b := range again {
			want := 0
			if i < k {
				want = -1
			}
			if i > k {
				want = 1
			}
			if got := value.Compare(a, b); got != want || value.Same(a, b) != (want == 0) {
				t.Errorf("Compare(%v, %v) = %d, want %d", a, b, got, want)
			}
		}
	}
}

func TestCompareOfWhatMayNotBe(t *testing.T) {
	others := strange()
	for name, a := range others {
		for _, b := range rising() {
			if value.Compare(a, b) != -1 || value.Compare(b, a) != 1 || value.Same(a, b) || value.Same(b, a) {
				t.Errorf("%s and %v", name, b)
			}
		}
		for other, b := range others {
			if value.Compare(a, b) != 0 || !value.Same(a, b) {
				t.Errorf("%s and %s", name, other)
			}
		}
		for _, b := range []api.Value{array(null, a), within(a, 9)} {
			if value.Compare(b, null) != -1 || value.Compare(null, b) != 1 || value.Compare(a, b) != 0 {
				t.Errorf("%s within another one", name)
			}
		}
	}
}

func TestCompareOfWhatIsNotWhole(t *testing.T) {
	deep, deeper := within(number(1), 20), within(number(2), 20)
	long, longer := text(5000), text(5001)
	for _, c := range [][2]api.Value{{deep, deeper}, {long, longer}, {null, long}, {array(null), deep}} {
		if value.Compare(c[0], c[1]) != -1 || value.Compare(c[1], c[0]) != 1 || value.Compare(c[1], value.Clone(c[1])) != 0 {
			t.Error("values that may be, and are not whole")
		}
	}
}

// P2.4: the order.

// chance makes values, always the same.
type chance struct{ sample.Chance }

// any makes a value of few things, so that many are nearly the same; some may not be.
func (c *chance) any(levels int) api.Value {
	kinds := 7
	if levels == 0 {
		kinds = 5
	}
	v := api.Value{Kind: 1 + c.Below(kinds)}
	switch v.Kind {
	case api.KindBool:
		v.Int = c.Below(2)
	case api.KindInt:
		v.Int = []int{math.MinInt, -1, 0, 1, math.MaxInt}[c.Below(5)]
	case api.KindText, api.KindBytes:
		v.Text = strings.Repeat("a", c.Below(2)) + strings.Repeat("\xff", c.Below(2))
	case api.KindArray, api.KindDoc:
		for i := range c.Below(4) {
			v.Items = append(v.Items, c.any(levels-1))
			if v.Kind == api.KindDoc {
				v.Names = append(v.Names, string([]byte{'a' + byte(i*2+c.Below(2))}))
			}
		}
	}
	if c.Below(40) == 0 {
		v.Kind = 0
	}
	return v
}

func TestOrder(t *testing.T) {
	c := chance{1}
	l := rising()
	for range 150 {
		l = append(l, c.any(3))
	}
	for _, a := range l {
		for _, b := range l {
			ab, ba := value.Compare(a, b), value.Compare(b, a)
			if ab != -ba || ab < -1 || ab > 1 || value.Same(a, b) != (ab == 0) || value.Same(b, a) != (ab == 0) {
				t.Fatalf("%v and %v: %d and %d", a, b, ab, ba)
			}
			if value.May(a) && value.May(b) && alike(a, b) != (ab == 0) {
				t.Fatalf("%v and %v: %d", a, b, ab)
			}
		}
	}
	// Once they are sorted, each must come no later than all behind it: so the order goes on from one to the next one.
	slices.SortStableFunc(l, value.Compare)
	for i := range l {
		for k := i; k < len(l); k++ {
			if value.Compare(l[i], l[k]) > 0 || i > 0 && value.Compare(l[i-1], l[i]) < 0 && value.Compare(l[i-1], l[k]) >= 0 {
				t.Fatalf("%v, then %v", l[i], l[k])
			}
		}
	}
}
