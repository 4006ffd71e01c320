package value_test

import (
	"math"
	"reflect"
	"strings"
	"testing"

	"tributary/api"
	"tributary/sample"
	"tributary/value"
)

// Values are put together as they are, without the makers that are tested.
var (
	null, number  = sample.Null(), sample.Number
	array, doc    = sample.Array, sample.Doc
	within, alike = sample.Levels, sample.Alike
)

func text(n int) api.Value { return sample.Text(strings.Repeat("x", n)) }

// names of one and of 32 and 33 bytes, and of any bytes but those that may not be.
var goodNames = []string{"a", "_id", "0", " ", "\x00", "\xff", "a$", "\u00e9", strings.Repeat("n", 32), strings.Repeat("\u00e9", 16), "a\nb", "a$b"}
var badNames = []string{"", ".", "a.b", ".a", "a.", "$", "$a", "$.", strings.Repeat("n", 33), strings.Repeat("\u00e9", 17), strings.Repeat("n", 31) + "..", strings.Repeat("n", 31) + "."}

// sized are values that may be, with their depths and sizes.
func sized() []struct {
	v           api.Value
	depth, size int
} {
	return []struct {
		v           api.Value
		depth, size int
	}{
		{null, 1, 1},
		{api.Value{Kind: api.KindBool}, 1, 2},
		{api.Value{Kind: api.KindBool, Int: 1}, 1, 2},
		{number(0), 1, 2}, {number(-64), 1, 2}, {number(63), 1, 2}, {number(64), 1, 3}, {number(-65), 1, 3},
		{number(math.MaxInt), 1, 11}, {number(math.MinInt), 1, 11},
		{text(0), 1, 2}, {text(1), 1, 3}, {text(127), 1, 129}, {text(128), 1, 131}, {text(9000), 1, 9003},
		{api.Value{Kind: api.KindText, Text: "\xff\x00"}, 1, 4},
		{api.Value{Kind: api.KindBytes}, 1, 2},
		{api.Value{Kind: api.KindBytes, Text: "\xff\x00\xfe"}, 1, 5},
		{api.Value{Kind: api.KindBytes, Text: strings.Repeat("b", 200)}, 1, 203},
		{array(), 1, 2}, {array(null), 2, 3}, {array(number(5), text(2)), 2, 2 + 2 + 4},
		{array(array(), array(array()), array()), 3, 2 + 2 + 4 + 2},
		{array(many(127)...), 2, 2 + 127}, {array(many(128)...), 2, 3 + 128},
		{doc(nil), 1, 2}, {doc([]string{"a"}, number(5)), 2, 6},
		{doc([]string{"ab", "c"}, null, doc([]string{"d"}, null)), 3, 2 + 3 + 1 + 2 + (2 + 2 + 1)},
		{doc(goodNames[:8], many(8)...), 2, 2 + 8 + nameBytes(goodNames[:8])},
		{within(null, 7), 8, 1 + 4*2 + 3*4},
		{within(null, 8), 9, 1 + 4*2 + 4*4},
		{within(null, 1001), 1002, 1 + 501*2 + 500*4},
	}
}

func nameBytes(l []string) int {
	n := 0
	for _, s := range l {
		n += 1 + len(s)
	}
	return n
}

// strange are values that may not be.
func strange() map[string]api.Value {
	one := []api.Value{null}
	name := []string{"a"}
	l := map[string]api.Value{
		"nothing":                      {},
		"kind 8":                       {Kind: 8},
		"kind -1":                      {Kind: -1},
		"a kind far off":               {Kind: math.MaxInt},
		"null with a number":           {Kind: api.KindNull, Int: 1},
		"null with a text":             {Kind: api.KindNull, Text: "a"},
		"null with items":              {Kind: api.KindNull, Items: one},
		"null with names":              {Kind: api.KindNull, Names: name},
		"bool 2":                       {Kind: api.KindBool, Int: 2},
		"bool -1":                      {Kind: api.KindBool, Int: -1},
		"bool with a text":             {Kind: api.KindBool, Text: "a"},
		"bool with items":              {Kind: api.KindBool, Items: one},
		"bool with names":              {Kind: api.KindBool, Names: name},
		"number with a text":           {Kind: api.KindInt, Text: "a"},
		"number with items":            {Kind: api.KindInt, Items: one},
		"number with names":            {Kind: api.KindInt, Names: name},
		"text with a number":           {Kind: api.KindText, Int: 1},
		"text with items":              {Kind: api.KindText, Items: one},
		"text with names":              {Kind: api.KindText, Names: name},
		"bytes with a number":          {Kind: api.KindBytes, Int: -1},
		"bytes with items":             {Kind: api.KindBytes, Items: one},
		"bytes with names":             {Kind: api.KindBytes, Names: name},
		"array with a number":          {Kind: api.KindArray, Int: 1},
		"array with a text":            {Kind: api.KindArray, Text: "a"},
		"array with names":             {Kind: api.KindArray, Items: one, Names: name},
		"array with names, no items":   {Kind: api.KindArray, Names: name},
		"array of nothing":             array(api.Value{}),
		"array, its last one nothing":  array(null, null, api.Value{}),
		"document with a number":       {Kind: api.KindDoc, Int: 1},
		"document with a text":         {Kind: api.KindDoc, Text: "a"},
		"document, more names":         doc([]string{"a", "b"}, null),
		"document, more items":         doc(name, null, null),
		"document, names alone":        doc(name),
		"document, items alone":        doc(nil, null),
		"document, a name twice":       doc([]string{"a", "a"}, null, null),
		"document, a name twice apart": doc([]string{"a", "b", "c", "a"}, null, null, null, null),
		"document of nothing":          doc(name, api.Value{}),
		"strange within":               array(doc(name, array(null, doc([]string{"b"}, api.Value{Kind: api.KindBool, Int: 3})))),
		"a name within that may not":   array(doc(name, array(doc([]string{"b.c"}, null)))),
	}
	for _, s := range badNames {
		l["the name "+s] = doc([]string{"a", s}, null, null)
	}
	return l
}

// P2.1: what may be, and how deep and large it is.

func TestName(t *testing.T) {
	for _, s := range goodNames {
		if !value.Name(s) {
			t.Errorf("Name(%q) = false", s)
		}
	}
	for _, s := range badNames {
		if value.Name(s) {
			t.Errorf("Name(%q) = true", s)
		}
	}
	for c := range 256 {
		first, second := string([]byte{byte(c)}), string([]byte{'x', byte(c)})
		if value.Name(first) != (c != '.' && c != '$') || value.Name(second) != (c != '.') {
			t.Errorf("names with the byte %d", c)
		}
	}
}

func TestWhatMayBe(t *testing.T) {
	for i, c := range sized() {
		if !value.May(c.v) || value.Depth(c.v) != c.depth || value.Size(c.v) != c.size {
			t.Errorf("%d: May %v, Depth %d (want %d), Size %d (want %d)", i, value.May(c.v), value.Depth(c.v), c.depth, value.Size(c.v), c.size)
		}
	}
	for _, s := range goodNames {
		if v := doc([]string{s}, null); !value.May(v) {
			t.Errorf("a document with the name %q", s)
		}
	}
}

func TestWhatMayNotBe(t *testing.T) {
	for name, v := range strange() {
		for _, v := range []api.Value{v, array(v), doc([]string{"x", "y"}, null, v), within(v, 20), array(text(5000), v)} {
			if value.May(v) || value.Check(v) != api.ErrValue || value.Depth(v) != 0 || value.Size(v) != 0 {
				t.Errorf("%s: May %v, Check %d, Depth %d, Size %d", name, value.May(v), value.Check(v), value.Depth(v), value.Size(v))
			}
		}
	}
}

func TestEmptyListsAreAsNone(t *testing.T) {
	for kind := api.KindNull; kind <= api.KindDoc; kind++ {
		a, b := api.Value{Kind: kind}, api.Value{Kind: kind, Items: []api.Value{}, Names: []string{}}
		if !value.May(a) || !value.May(b) || value.Check(b) != api.OK || !value.Same(a, b) {
			t.Errorf("kind %d with empty lists", kind)
		}
	}
}

func TestCheck(t *testing.T) {
	fits, over := text(4096-3), text(4096-2)
	for _, c := range []struct {
		name string
		v    api.Value
		want api.Errno
	}{
		{"null", null, api.OK},
		{"depth 8", within(null, 7), api.OK},
		{"depth 9", within(null, 8), api.ErrDepth},
		{"depth 8 of empty ones", array(null, within(array(), 7)), api.ErrDepth},
		{"depth 8, an empty array at its end", within(array(), 7), api.OK},
		{"depth 9 on one side alone", array(null, within(null, 7), null), api.ErrDepth},
		{"a text of size 4096", fits, api.OK},
		{"a text of size 4097", over, api.ErrSize},
		{"bytes of size 4096", api.Value{Kind: api.KindBytes, Text: fits.Text}, api.OK},
		{"bytes of size 4097", api.Value{Kind: api.KindBytes, Text: over.Text}, api.ErrSize},
		{"an array of size 4096", array(text(4096 - 5)), api.OK},
		{"an array of size 4097", array(text(4096 - 4)), api.ErrSize},
		{"a document of size 4096", doc([]string{"ab"}, text(4096-8)), api.OK},
		{"a document of size 4097", doc([]string{"abc"}, text(4096-8)), api.ErrSize},
		{"4093 items", array(many(4093)...), api.OK},
		{"4094 items", array(many(4094)...), api.ErrSize},
		{"too deep and too large", array(over, within(null, 8)), api.ErrDepth},
		{"strange and too deep", within(api.Value{}, 8), api.ErrValue},
		{"strange and too large", array(over, api.Value{}), api.ErrValue},
	} {
		if got := value.Check(c.v); got != c.want {
			t.Errorf("%s: %d, want %d", c.name, got, c.want)
		}
	}
}

func many(n int) []api.Value {
	l := make([]api.Value, n)
	for i := range l {
		l[i] = null
	}
	return l
}

func TestFarTooDeep(t *testing.T) {
	const levels = 1<<16 - 1
	v, strange := within(number(1), levels), within(api.Value{}, levels)
	if !value.May(v) || value.Check(v) != api.ErrDepth || value.Depth(v) != levels+1 || value.Size(v) != 2+(levels+1)/2*2+levels/2*4 {
		t.Error("what may be, far too deep:", value.Check(v), value.Depth(v), value.Size(v))
	}
	if value.May(strange) || value.Check(strange) != api.ErrValue || value.Depth(strange) != 0 {
		t.Error("what may not be, far too deep")
	}
	if c := value.Clone(v); !value.Same(c, v) || value.Compare(c, within(number(2), levels)) != -1 {
		t.Error("Clone, or Compare, far too deep")
	}
}

// P2.2: Clone (Compare and Same are tested in order_test.go).

func TestClone(t *testing.T) {
	for i, c := range sized() {
		if got := value.Clone(c.v); !value.Same(got, c.v) || !alike(got, c.v) {
			t.Errorf("%d: the clone is another value", i)
		}
	}
	for name, v := range strange() {
		if !alike(value.Clone(v), v) {
			t.Errorf("the clone of what may not be is another one: %s", name)
		}
	}
}

// nested is a value with lists at three levels.
func nested() api.Value {
	return doc([]string{"a", "b"}, array(number(1), doc([]string{"c"}, array(number(2)))), doc([]string{"d", "e"}, null, text(1)))
}

func TestCloneSharesNothing(t *testing.T) {
	v := nested()
	c := value.Clone(v)
	sample.Spoil(c)
	if !alike(v, nested()) {
		t.Error("what is changed in a clone is changed in the value")
	}
	c = value.Clone(v)
	sample.Spoil(v)
	if !alike(c, nested()) {
		t.Error("what is changed in a value is changed in its clone")
	}
	inner := array(number(1))
	c = value.Clone(array(inner, inner))
	c.Items[0].Items[0] = null
	if c.Items[1].Items[0].Kind != api.KindInt {
		t.Error("two lists of a clone are one")
	}
}

func TestCloneLeavesTheRoomBehind(t *testing.T) {
	room := []api.Value{number(1), number(2), number(3)}
	names := []string{"a", "b", "c"}
	v := doc(names[:1], room[:1]...)
	c := value.Clone(v)
	c.Items, c.Names = append(c.Items, null), append(c.Names, "x")
	if room[1].Int != 2 || names[1] != "b" {
		t.Error("a clone reaches into the room behind a list")
	}
}

// P2.3: the makers.

func TestMakers(t *testing.T) {
	odd := api.Value{Kind: 99, Int: 5, Names: []string{"$", "$"}}
	for _, c := range []struct {
		name      string
		got, want api.Value
	}{
		{"Null", value.Null(), api.Value{Kind: 1}},
		{"Bool", value.Bool(false), api.Value{Kind: 2}},
		{"Bool", value.Bool(true), api.Value{Kind: 2, Int: 1}},
		{"Int", value.Int(0), api.Value{Kind: 3}},
		{"Int", value.Int(math.MinInt), api.Value{Kind: 3, Int: math.MinInt}},
		{"Int", value.Int(math.MaxInt), api.Value{Kind: 3, Int: math.MaxInt}},
		{"Text", value.Text(""), api.Value{Kind: 4}},
		{"Text", value.Text("a\xff\x00"), api.Value{Kind: 4, Text: "a\xff\x00"}},
		{"Bytes", value.Bytes(nil), api.Value{Kind: 5}},
		{"Bytes", value.Bytes([]byte{}), api.Value{Kind: 5}},
		{"Bytes", value.Bytes([]byte("a\xff\x00")), api.Value{Kind: 5, Text: "a\xff\x00"}},
		{"Array", value.Array(), api.Value{Kind: 6}},
		{"Array", value.Array(null), api.Value{Kind: 6, Items: []api.Value{null}}},
		{"Array", value.Array(number(2), text(1), number(1)), array(number(2), text(1), number(1))},
		{"Array of strange ones", value.Array(odd, api.Value{}), array(odd, api.Value{})},
		{"Doc", value.Doc(nil), api.Value{Kind: 7}},
		{"Doc", value.Doc([]string{}), api.Value{Kind: 7}},
		{"Doc", value.Doc([]string{"b", "a"}, number(1), null), doc([]string{"b", "a"}, number(1), null)},
		{"Doc of names alone", value.Doc([]string{"a", "a"}), doc([]string{"a", "a"})},
		{"Doc of items alone", value.Doc(nil, null, odd), doc(nil, null, odd)},
		{"Doc of strange names", value.Doc([]string{"", "$.", "$."}, odd), doc([]string{"", "$.", "$."}, odd)},
	} {
		if !alike(c.got, c.want) {
			t.Errorf("%s: %v, want %v", c.name, c.got, c.want)
		}
	}
}

func TestMadeOfListsOfTheirOwn(t *testing.T) {
	l := []api.Value{nested(), nested(), number(7)}
	names := []string{"x", "y", "z"}
	wantArray, wantDoc := array(nested(), nested()), doc([]string{"x", "y"}, nested(), nested())
	a, d := value.Array(l[:2]...), value.Doc(names[:2], l[:2]...)
	sample.Spoil(value.Array(l[:2]...))
	sample.Spoil(value.Doc(names[:2], l[:2]...))
	if !alike(array(l...), array(nested(), nested(), number(7))) || !reflect.DeepEqual(names, []string{"x", "y", "z"}) {
		t.Error("what is changed in a value is changed in what it was made of, or in the room behind that")
	}
	sample.Spoil(array(l...))
	clear(names)
	if !alike(a, wantArray) || !alike(d, wantDoc) {
		t.Error("what is changed in what a value was made of is changed in the value")
	}
	inner := array(number(1))
	for _, v := range []api.Value{value.Array(inner, inner), value.Doc([]string{"a", "b"}, inner, inner)} {
		v.Items[0].Items[0] = null
		if v.Items[1].Items[0].Kind != api.KindInt || inner.Items[0].Kind != api.KindInt {
			t.Error("two lists of a value are one")
		}
	}
	b := []byte("abc")
	v := value.Bytes(b)
	b[0] = 'x'
	if v.Text != "abc" {
		t.Error("Bytes keeps what it is given")
	}
}

func TestNothingIsChanged(t *testing.T) {
	v, w := nested(), nested()
	value.May(v)
	value.Check(v)
	value.Depth(v)
	value.Size(v)
	value.Compare(v, w)
	value.Same(v, w)
	value.Clone(v)
	if !reflect.DeepEqual(v, nested()) || !reflect.DeepEqual(w, nested()) {
		t.Error("what was handed in is changed")
	}
}
