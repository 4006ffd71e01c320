package path_test

import (
	"fmt"
	"slices"
	"strings"
	"testing"

	"tributary/api"
	"tributary/path"
)

func letters(n int) string { return strings.Repeat("x", n) }

func steps(l ...string) []string { return l }

// known are paths and their texts.
var known = []struct {
	p    []string
	text string
}{
	{steps("a"), "a"},
	{steps("_id"), "_id"},
	{steps("0"), "0"},
	{steps("a", "0", "b"), "a.0.b"},
	{steps("a", "a", "a"), "a.a.a"},
	{steps("a$", "b$c"), "a$.b$c"},
	{steps(" ", "\x00", "\n"), " .\x00.\n"},
	{steps("\xff", "\xc3", "\u00e9\xe2\x82"), "\xff.\xc3.\u00e9\xe2\x82"},
	{steps("\u00e9", "\u65e5\u672c", "\U0001f600"), "\u00e9.\u65e5\u672c.\U0001f600"},
	{steps("\ufffd", "\xef\xbf"), "\ufffd.\xef\xbf"},
	{steps("-1", "01", "1000"), "-1.01.1000"},
	{steps("1", "2", "3", "4", "5", "6", "7", "8"), "1.2.3.4.5.6.7.8"},
	{steps(letters(32)), letters(32)},
	{steps("a", letters(32), "b"), "a." + letters(32) + ".b"},
	{slices.Repeat(steps(letters(32)), 8), strings.Repeat(letters(32)+".", 7) + letters(32)},
	{steps(strings.Repeat("\u00e9", 16)), strings.Repeat("\u00e9", 16)},
}

// wrong are lists that are no path, each with a step that is no name or too many of them, or none.
var wrong = [][]string{
	nil, {}, {""}, {"."}, {"a."}, {".a"}, {"a.b"}, {"$"}, {"$a"}, {letters(33)}, {letters(31) + "."}, {strings.Repeat("\u00e9", 17)},
	{"a", ""}, {"", "a"}, {"a", "", "b"}, {"a", "$b"}, {"$a", "b"}, {"a", letters(33)}, {letters(33), "a"}, {"a", "b.c"}, {"a", "b", "c", "d", "e", "f", "g", ""},
	{"1", "2", "3", "4", "5", "6", "7", "8", "9"}, slices.Repeat([]string{letters(32)}, 9), slices.Repeat([]string{"a"}, 100000),
}

// P4.1: Parse, May, Text, Index.

func TestParse(t *testing.T) {
	for _, c := range known {
		if p, e := path.Parse(c.text); !slices.Equal(p, c.p) || e != api.OK {
			t.Errorf("Parse(%q) = %q, %d, want %q", c.text, p, e, c.p)
		}
	}
	for _, s := range []string{
		"", ".", "..", "a.", ".a", "a..b", "a.b.", ".a.b", "a.b..", "$", "$a", "a.$b", "$a.b", "a.$", "1.2.3.4.5.6.7.8.9", "1.2.3.4.5.6.7.8.", ".1.2.3.4.5.6.7.8",
		letters(33), "a." + letters(33), letters(33) + ".a", strings.Repeat("\u00e9", 17), strings.Repeat("a.", 1<<20), letters(1 << 20), strings.Repeat(".", 1<<20),
		strings.Repeat(letters(32)+".", 8) + "a", strings.Repeat(letters(32)+".", 7) + letters(33),
	} {
		if p, e := path.Parse(s); len(p) != 0 || e != api.ErrPath {
			t.Errorf("Parse(%.80q) = %q, %d", s, p, e)
		}
	}
}

func TestEachByteInSteps(t *testing.T) {
	for c := range 256 {
		s := string([]byte{byte(c)})
		if c == '.' {
			continue
		}
		for _, p := range [][]string{{s}, {"a", s, "b"}, {"a" + s, s + "b"}, {s + s, "0"}} {
			want := !slices.ContainsFunc(p, func(step string) bool { return step[0] == '$' })
			got, e := path.Parse(strings.Join(p, "."))
			if path.May(p) != want || want != (e == api.OK) || want && !slices.Equal(got, p) {
				t.Errorf("byte %d: May(%q) = %v, parsed %q, %d", c, p, path.May(p), got, e)
			}
		}
	}
}

func TestMayAndText(t *testing.T) {
	for _, c := range known {
		if s, e := path.Text(c.p); !path.May(c.p) || s != c.text || e != api.OK {
			t.Errorf("%q: May %v, Text %q, %d, want %q", c.p, path.May(c.p), s, e, c.text)
		}
	}
	for _, p := range wrong {
		if s, e := path.Text(p); path.May(p) || s != "" || e != api.ErrPath {
			t.Errorf("%.80q: May %v, Text %q, %d", p, path.May(p), s, e)
		}
	}
}

func TestIndex(t *testing.T) {
	for n := range 1000 {
		if got, ok := path.Index(fmt.Sprint(n)); got != n || !ok {
			t.Errorf("Index(%d) = %d, %v", n, got, ok)
		}
		if n < 100 {
			for _, s := range []string{fmt.Sprintf("0%d", n), fmt.Sprintf("%03d", n), fmt.Sprintf("00%d", n)} {
				if got, ok := path.Index(s); got != 0 || ok {
					t.Errorf("Index(%q) = %d, %v", s, got, ok)
				}
			}
		}
	}
	for _, s := range []string{"", "00", "01", "000", "001", "010", "099", "1000", "1001", "9999", "0000", "0001", "-1", "-0", "+1", "+", "-", " 1", "1 ", "1.", "1.0", ".1", "a", "1a", "a1", "0a", "12a", "a12", "0x1", "1e1", "1_0", "9/", "9:", "/", ":", "\u0661", "\uff11", "1\xff", "\xff", "\x00", "1\x00", "18446744073709551617", "9223372036854775808", "10000000000000000000000000000001", strings.Repeat("0", 1<<20), strings.Repeat("1", 1<<20)} {
		if n, ok := path.Index(s); n != 0 || ok {
			t.Errorf("Index(%.80q) = %d, %v", s, n, ok)
		}
	}
	for c := range 256 {
		s := string([]byte{byte(c)})
		digit := c >= '0' && c <= '9'
		if n, ok := path.Index(s); ok != digit || ok && n != c-'0' || !ok && n != 0 {
			t.Errorf("Index(%q) = %d, %v", s, n, ok)
		}
		if n, ok := path.Index("4" + s); ok != digit || ok && n != 40+c-'0' || !ok && n != 0 {
			t.Errorf("Index(%q) = %d, %v", "4"+s, n, ok)
		}
	}
}

// P4.2: Begins, Meet, Join.

func TestBeginsAndMeet(t *testing.T) {
	for _, c := range []struct {
		a, b         []string
		begins, meet bool
	}{
		{nil, nil, true, true},
		{nil, steps(), true, true},
		{nil, steps("a"), true, true},
		{steps("a"), nil, false, true},
		{steps("a"), steps("a"), true, true},
		{steps("a"), steps("b"), false, false},
		{steps("a"), steps("ab"), false, false},
		{steps("ab"), steps("a"), false, false},
		{steps("a"), steps("a", "b"), true, true},
		{steps("a", "b"), steps("a"), false, true},
		{steps("a", "b"), steps("a", "c"), false, false},
		{steps("a", "b"), steps("a", "b"), true, true},
		{steps("a", "b"), steps("a", "b", "c", "d"), true, true},
		{steps("a", "c"), steps("a", "b", "c"), false, false},
		{steps("b"), steps("a", "b"), false, false},
		{steps("a"), steps("b", "a"), false, false},
		{steps("a", "b"), steps("b", "a"), false, false},
		{steps("0"), steps("00"), false, false},
		{steps("1"), steps("01", "a"), false, false},
		{steps("a", "b"), steps("a.b"), false, false},
		{steps("a.b"), steps("a", "b"), false, false},
		{steps(""), steps("", ""), true, true},
		{steps(""), nil, false, true},
		{steps("$", "."), steps("$", ".", letters(99)), true, true},
		{steps("\xff"), steps("\xfe"), false, false},
		{slices.Repeat(steps("a"), 20), slices.Repeat(steps("a"), 21), true, true},
	} {
		if path.Begins(c.a, c.b) != c.begins || path.Meet(c.a, c.b) != c.meet || path.Meet(c.b, c.a) != c.meet {
			t.Errorf("%q, %q: Begins %v, Meet %v, %v", c.a, c.b, path.Begins(c.a, c.b), path.Meet(c.a, c.b), path.Meet(c.b, c.a))
		}
	}
}

func TestJoin(t *testing.T) {
	for _, c := range known {
		for i := range len(c.p) + 1 {
			if p, e := path.Join(c.p[:i], c.p[i:]...); !slices.Equal(p, c.p) || e != api.OK {
				t.Errorf("Join(%q, %q) = %q, %d", c.p[:i], c.p[i:], p, e)
			}
		}
	}
	for _, l := range wrong {
		for i := range min(len(l), 10) + 1 {
			if p, e := path.Join(l[:i], l[i:]...); len(p) != 0 || e != api.ErrPath {
				t.Errorf("Join(%q, %.80q) = %q, %d", l[:i], l[i:], p, e)
			}
		}
	}
	if p, e := path.Join(nil); len(p) != 0 || e != api.ErrPath {
		t.Errorf("Join of nothing = %q, %d", p, e)
	}
	if p, e := path.Join(steps("a"), "b", "0"); !slices.Equal(p, steps("a", "b", "0")) || e != api.OK {
		t.Errorf("Join = %q, %d", p, e)
	}
}

// P4.3: there and back; paths meet either way round.

// each calls see with all lists of the steps, up to so many.
func each(of []string, most int, see func(l []string)) {
	var add func(l []string, left int)
	add = func(l []string, left int) {
		see(l)
		if left > 0 {
			for _, s := range of {
				add(append(slices.Clone(l), s), left-1)
			}
		}
	}
	add(nil, most)
}

func TestThereAndBack(t *testing.T) {
	found := 0
	each([]string{"a", ".", "$", "0", "\xff", "\xc3", "\xa9"}, 6, func(l []string) {
		s := strings.Join(l, "")
		want := strings.Split(s, ".")
		ok := !slices.ContainsFunc(want, func(step string) bool { return step == "" || step[0] == '$' })
		p, e := path.Parse(s)
		if ok != (e == api.OK) || ok && !slices.Equal(p, want) || !ok && (len(p) != 0 || e != api.ErrPath) {
			t.Fatalf("Parse(%q) = %q, %d", s, p, e)
		}
		if back, e := path.Text(p); ok && (back != s || e != api.OK) {
			t.Fatalf("%q is parsed, and its text is %q, %d", s, back, e)
		}
		if ok {
			found++
		}
	})
	if found < 1000 {
		t.Error("just so many paths:", found)
	}
	each([]string{"a", "b.c", "$", "", "0", letters(32), letters(33)}, 4, func(l []string) {
		s, e := path.Text(l)
		if path.May(l) != (e == api.OK) {
			t.Fatalf("%q: May %v, Text %d", l, path.May(l), e)
		}
		if p, e := path.Parse(s); path.May(l) && (!slices.Equal(p, l) || e != api.OK) {
			t.Fatalf("the text %q of %q is parsed to %q, %d", s, l, p, e)
		}
	})
}

func TestMeetEitherWayRound(t *testing.T) {
	var all [][]string
	each([]string{"a", "b", "ab"}, 3, func(l []string) { all = append(all, l) })
	for _, a := range all {
		for _, b := range all {
			// A step more at the end of both texts tells a step's end from its middle.
			textA, textB := "."+strings.Join(append(slices.Clone(a), ""), "."), "."+strings.Join(append(slices.Clone(b), ""), ".")
			begins, meet := strings.HasPrefix(textB, textA) || len(a) == 0, false
			meet = begins || strings.HasPrefix(textA, textB) || len(b) == 0
			if path.Begins(a, b) != begins || path.Meet(a, b) != meet || path.Meet(b, a) != meet {
				t.Errorf("%q, %q: Begins %v, Meet %v, %v", a, b, path.Begins(a, b), path.Meet(a, b), path.Meet(b, a))
			}
			for i := range min(len(a), len(b)) {
				if meet && a[i] != b[i] {
					t.Errorf("%q and %q meet", a, b)
				}
			}
		}
	}
}

// What is handed in is not changed and not kept; what is answered is new memory.

func TestNothingIsChangedAndAnswersAreNewMemory(t *testing.T) {
	room := steps("a", "b", "c", "d")
	more := steps("x", "y", "z")
	joined, _ := path.Join(room[:2], more[:1]...)
	whole, _ := path.Join(room[:2])
	last, _ := path.Join(nil, more[:2]...)
	path.Text(room[:2])
	path.May(room[:2])
	path.Begins(room[:2], more[:1])
	path.Meet(room[:2], more[:1])
	if !slices.Equal(room, steps("a", "b", "c", "d")) || !slices.Equal(more, steps("x", "y", "z")) {
		t.Error("what was handed in is changed:", room, more)
	}
	for _, l := range [][]string{joined, whole, last} {
		clear(l[:cap(l)])
	}
	if !slices.Equal(room, steps("a", "b", "c", "d")) || !slices.Equal(more, steps("x", "y", "z")) {
		t.Error("an answer is what was handed in:", room, more)
	}
	joined, _ = path.Join(room[:2], more[:1]...)
	whole, _ = path.Join(room[:2])
	last, _ = path.Join(nil, more[:2]...)
	clear(room)
	clear(more)
	if !slices.Equal(joined, steps("a", "b", "x")) || !slices.Equal(whole, steps("a", "b")) || !slices.Equal(last, steps("x", "y")) {
		t.Error("an answer changes with what was handed in:", joined, whole, last)
	}
	p, _ := path.Parse("a.b")
	q, _ := path.Parse("a.b")
	clear(p[:cap(p)])
	if !slices.Equal(q, steps("a", "b")) {
		t.Error("two answers are one")
	}
}
