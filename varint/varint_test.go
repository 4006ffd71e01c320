package varint_test

import (
	"bytes"
	"math"
	"slices"
	"strings"
	"testing"

	"tributary/api"
	"tributary/varint"
)

// numbers are codes of numbers as the document's words say, with the edges of each length.
var numbers = []struct {
	x    int
	code string
}{
	{0, "\x00"}, {-1, "\x01"}, {1, "\x02"}, {-2, "\x03"}, {2, "\x04"},
	{63, "\x7e"}, {-64, "\x7f"}, {64, "\x80\x01"}, {-65, "\x81\x01"}, {65, "\x82\x01"},
	{8191, "\xfe\x7f"}, {-8192, "\xff\x7f"}, {8192, "\x80\x80\x01"}, {-8193, "\x81\x80\x01"},
	{1 << 61, "\x80\x80\x80\x80\x80\x80\x80\x80\x40"},
	{1<<62 - 1, "\xfe\xff\xff\xff\xff\xff\xff\xff\x7f"},
	{-1 << 62, "\xff\xff\xff\xff\xff\xff\xff\xff\x7f"},
	{1 << 62, "\x80\x80\x80\x80\x80\x80\x80\x80\x80\x01"},
	{-1<<62 - 1, "\x81\x80\x80\x80\x80\x80\x80\x80\x80\x01"},
	{math.MaxInt, "\xfe\xff\xff\xff\xff\xff\xff\xff\xff\x01"},
	{math.MinInt, "\xff\xff\xff\xff\xff\xff\xff\xff\xff\x01"},
}

// counts are codes of counts, with the edges of each length, up to the greatest count.
var counts = []struct {
	n    int
	code string
}{
	{0, "\x00"}, {1, "\x01"}, {126, "\x7e"}, {127, "\x7f"}, {128, "\x80\x01"}, {129, "\x81\x01"}, {300, "\xac\x02"},
	{16383, "\xff\x7f"}, {16384, "\x80\x80\x01"}, {1<<21 - 1, "\xff\xff\x7f"}, {1 << 21, "\x80\x80\x80\x01"},
	{1 << 40, "\x80\x80\x80\x80\x80\x20"},
	{1<<62 - 1, "\xff\xff\xff\xff\xff\xff\xff\xff\x3f"},
	{1 << 62, "\x80\x80\x80\x80\x80\x80\x80\x80\x40"},
}

// texts are codes of texts, of any bytes.
var texts = []struct{ s, code string }{
	{"", "\x00"}, {"ab", "\x02ab"}, {"\x00", "\x01\x00"}, {"\xff\xfe", "\x02\xff\xfe"}, {"\u00e9", "\x02\xc3\xa9"},
	{strings.Repeat("x", 127), "\x7f" + strings.Repeat("x", 127)},
	{strings.Repeat("x", 128), "\x80\x01" + strings.Repeat("x", 128)},
	{strings.Repeat("y", 20000), "\xa0\x9c\x01" + strings.Repeat("y", 20000)},
}

// P1.1: codes.

func TestInt(t *testing.T) {
	for _, c := range numbers {
		if got := string(varint.Int(c.x)); got != c.code {
			t.Errorf("Int(%d) = %q, want %q", c.x, got, c.code)
		}
	}
}

func TestCount(t *testing.T) {
	for _, c := range counts {
		if got, e := varint.Count(c.n); e != api.OK || string(got) != c.code {
			t.Errorf("Count(%d) = %q, %d, want %q", c.n, got, e, c.code)
		}
	}
	for _, n := range []int{-1, -128, math.MinInt, 1<<62 + 1, math.MaxInt} {
		if got, e := varint.Count(n); e != api.ErrArg || len(got) != 0 {
			t.Errorf("Count(%d) = %q, %d, want ErrArg", n, got, e)
		}
	}
}

func TestText(t *testing.T) {
	for _, c := range texts {
		if got := string(varint.Text(c.s)); got != c.code {
			t.Errorf("Text(%q) = %q, want %q", c.s, got, c.code)
		}
	}
}

func TestCodesAreNewMemory(t *testing.T) {
	makers := map[string]func() []byte{
		"Int":   func() []byte { return varint.Int(70) },
		"Count": func() []byte { b, _ := varint.Count(5); return b },
		"Text":  func() []byte { return varint.Text("ab") },
	}
	for name, code := range makers {
		want := string(code())
		b := code()
		b = b[:cap(b)]
		for i := range b {
			b[i] = 0xee
		}
		if got := string(code()); got != want {
			t.Errorf("%s: %q became %q", name, want, got)
		}
	}
}

// P1.2: sources.

func TestSourceReadsEachCode(t *testing.T) {
	for _, c := range numbers {
		s := varint.From([]byte(c.code))
		if got := s.Int(); got != c.x || s.Bad() || s.Done() != api.OK {
			t.Errorf("Int of %q: %d, bad %v, want %d", c.code, got, s.Bad(), c.x)
		}
	}
	for _, c := range counts {
		s := varint.From([]byte(c.code))
		if got := s.Count(math.MaxInt); got != c.n || s.Bad() || s.Done() != api.OK {
			t.Errorf("Count of %q: %d, bad %v, want %d", c.code, got, s.Bad(), c.n)
		}
	}
	for _, c := range texts {
		s := varint.From([]byte(c.code))
		if got := s.Text(math.MaxInt); got != c.s || s.Bad() || s.Done() != api.OK {
			t.Errorf("Text of %q: %q, bad %v", c.code, got, s.Bad())
		}
	}
	for x := range 256 {
		s := varint.From([]byte{byte(x)})
		if got := s.Byte(); got != x || s.Bad() || s.Done() != api.OK {
			t.Errorf("Byte of %d: %d", x, got)
		}
	}
}

func TestSourceMovesOn(t *testing.T) {
	s := varint.From([]byte("\x03abc\x05\xac\x02\x7f\x00"))
	facts := []struct {
		name string
		got  any
		want any
	}{
		{"Left at first", s.Left(), 9},
		{"Text", s.Text(3), "abc"}, {"Left", s.Left(), 5},
		{"Byte", s.Byte(), 5}, {"Left", s.Left(), 4},
		{"Count", s.Count(300), 300}, {"Left", s.Left(), 2},
		{"Int", s.Int(), -64}, {"Left", s.Left(), 1},
		{"Done too early", s.Done(), api.ErrCode}, {"Bad", s.Bad(), false}, {"Left", s.Left(), 1},
		{"Text", s.Text(0), ""}, {"Left", s.Left(), 0},
		{"Done", s.Done(), api.OK}, {"Bad", s.Bad(), false},
	}
	for _, f := range facts {
		if f.got != f.want {
			t.Errorf("%s: %v, want %v", f.name, f.got, f.want)
		}
	}
}

func TestEmptySource(t *testing.T) {
	for _, b := range [][]byte{nil, {}} {
		s := varint.From(b)
		if s.Left() != 0 || s.Bad() || s.Done() != api.OK {
			t.Errorf("From(%v): left %d, bad %v, done %d", b, s.Left(), s.Bad(), s.Done())
		}
	}
}

func TestBounds(t *testing.T) {
	good := []struct {
		code string
		most int
	}{
		{"\x00", 0}, {"\x05", 5}, {"\x05", 6}, {"\x80\x01", 128},
		{"\x80\x80\x80\x80\x80\x80\x80\x80\x40", 1 << 62}, {"\x80\x80\x80\x80\x80\x80\x80\x80\x40", math.MaxInt},
	}
	for _, c := range good {
		if s := varint.From([]byte(c.code)); s.Count(c.most) == 0 && c.code != "\x00" || s.Bad() {
			t.Errorf("Count(%d) of %q is bad", c.most, c.code)
		}
	}
	bad := []struct {
		code string
		most int
	}{
		{"\x01", 0}, {"\x05", 4}, {"\x80\x01", 127}, {"\x00", -1}, {"\x00", math.MinInt}, {"\x05", -1},
		{"\x80\x80\x80\x80\x80\x80\x80\x80\x40", 1<<62 - 1},
		{"\x81\x80\x80\x80\x80\x80\x80\x80\x40", math.MaxInt},
		{"\xff\xff\xff\xff\xff\xff\xff\xff\x7f", math.MaxInt},
		{"\xff\xff\xff\xff\xff\xff\xff\xff\xff\x01", math.MaxInt},
	}
	for _, c := range bad {
		isBad(t, "a count above its bound", c.code, func(s *varint.Source) any { return s.Count(c.most) }, 0)
	}
	for _, most := range []int{2, 1, 0, -1, math.MinInt} {
		isBad(t, "Text above its bound", "\x03abc", func(s *varint.Source) any { return s.Text(most) }, "")
	}
	isBad(t, "an empty text of a bound below 0", "\x00", func(s *varint.Source) any { return s.Text(-1) }, "")
	if s := varint.From([]byte("\x03abc")); s.Text(3) != "abc" || s.Bad() {
		t.Error("Text at its bound")
	}
}

// noCodes begin with no code of a number, nor of a count.
var noCodes = map[string]string{
	"nothing":                         "",
	"a group that goes on to nothing": "\x80",
	"groups that go on to nothing":    "\xff\xff\xff",
	"0 in two groups":                 "\x80\x00",
	"1 in two groups":                 "\x81\x00",
	"127 in two groups":               "\xff\x00",
	"128 in three groups":             "\x80\x81\x00",
	"a longer code with more behind":  "\x80\x00\x05\x05",
	"0 in ten groups":                 "\x80\x80\x80\x80\x80\x80\x80\x80\x80\x00",
	"65 bits":                         "\xff\xff\xff\xff\xff\xff\xff\xff\xff\x02",
	"65 bits and more":                "\x80\x80\x80\x80\x80\x80\x80\x80\x80\x7f",
	"eleven groups":                   "\xff\xff\xff\xff\xff\xff\xff\xff\xff\xff\x00",
	"eleven groups of one bit":        "\x80\x80\x80\x80\x80\x80\x80\x80\x80\x80\x01",
	"nine groups that go on":          "\x80\x80\x80\x80\x80\x80\x80\x80\x80",
	"twelve groups that go on":        "\xff\xff\xff\xff\xff\xff\xff\xff\xff\xff\xff\xff",
}

func TestBadCodes(t *testing.T) {
	for name, code := range noCodes {
		isBad(t, "Int of "+name, code, func(s *varint.Source) any { return s.Int() }, 0)
		isBad(t, "Count of "+name, code, func(s *varint.Source) any { return s.Count(math.MaxInt) }, 0)
		isBad(t, "Text of "+name, code, func(s *varint.Source) any { return s.Text(math.MaxInt) }, "")
	}
	isBad(t, "Byte of nothing", "", func(s *varint.Source) any { return s.Byte() }, 0)
	for _, code := range []string{"\x01", "\x04abc", "\x80\x01abc", "\x80\x80\x80\x80\x80\x80\x80\x80\x40abc"} {
		isBad(t, "a text that ends too early", code, func(s *varint.Source) any { return s.Text(math.MaxInt) }, "")
	}
}

// isBad lets read read from a source of code, and more behind what was read already, and wants nothing, and the source bad, for all that is asked later.
func isBad(t *testing.T, name, code string, read func(s *varint.Source) any, nothing any) {
	t.Helper()
	s := varint.From([]byte("\x07" + code))
	s.Byte()
	if got := read(s); got != nothing {
		t.Errorf("%s, %q: %v", name, code, got)
	}
	staysBad(t, name, s)
}

func staysBad(t *testing.T, name string, s *varint.Source) {
	t.Helper()
	for range 2 {
		if !s.Bad() || s.Left() != 0 || s.Done() != api.ErrCode {
			t.Errorf("%s: bad %v, left %d, done %d", name, s.Bad(), s.Left(), s.Done())
		}
		if s.Byte() != 0 || s.Int() != 0 || s.Count(math.MaxInt) != 0 || s.Text(math.MaxInt) != "" {
			t.Errorf("%s: something is read from what is bad", name)
		}
		s.Spoil()
	}
}

func TestSpoil(t *testing.T) {
	s := varint.From([]byte("\x05\x05\x05\x05\x05\x05\x05\x05\x05\x05"))
	s.Byte()
	s.Spoil()
	staysBad(t, "spoilt", s)
	s = varint.From(nil)
	s.Spoil()
	staysBad(t, "spoilt at its end", s)
}

func TestNilSource(t *testing.T) {
	var s *varint.Source
	staysBad(t, "nil", s)
}

func TestSourceDoesNotKeepOrChange(t *testing.T) {
	room := []byte("\x03abc\x05\x7fbehind")
	b := room[:6]
	was := bytes.Clone(room)
	s, other := varint.From(b), varint.From(b)
	if s.Text(9) != "abc" || s.Byte() != 5 || s.Int() != -64 || s.Int() != 0 || !s.Bad() {
		t.Error("a source goes past the end of what it was given")
	}
	if !bytes.Equal(room, was) {
		t.Errorf("what was handed in is changed: %q", room)
	}
	clear(b)
	if other.Left() != 6 || other.Text(9) != "abc" || other.Byte() != 5 || other.Int() != -64 || other.Done() != api.OK {
		t.Error("a source changes with what was handed in, or with another source")
	}
}

// P1.3: what was put is read; no code is the beginning of another one's.

// mixed are numbers of all lengths: from each power of 2 some steps to both sides.
func mixed() []int {
	var l []int
	for shift := range 64 {
		for step := -2; step <= 2; step++ {
			l = append(l, 1<<shift+step, -(1<<shift)+step)
		}
	}
	for x := -300; x <= 300; x++ {
		l = append(l, x)
	}
	slices.Sort(l)
	return slices.Compact(l)
}

func TestWhatWasPutIsRead(t *testing.T) {
	l := mixed()
	var b []byte
	for _, x := range l {
		b = append(b, varint.Int(x)...)
		if code, e := varint.Count(x); e == api.OK {
			b = append(b, code...)
		}
		b = append(b, varint.Text(strings.Repeat("z", x&255))...)
	}
	s := varint.From(b)
	for _, x := range l {
		if got := s.Int(); got != x {
			t.Fatalf("Int: %d, want %d", got, x)
		}
		if x >= 0 && x <= 1<<62 {
			if got := s.Count(x); got != x {
				t.Fatalf("Count: %d, want %d", got, x)
			}
		}
		if got := s.Text(255); got != strings.Repeat("z", x&255) {
			t.Fatalf("Text: %q, want %d bytes", got, x&255)
		}
	}
	if s.Done() != api.OK {
		t.Error("not all is read")
	}
}

func TestNoCodeBeginsAnother(t *testing.T) {
	var ints, counts, texts []string
	for _, x := range mixed() {
		ints = append(ints, string(varint.Int(x)))
		if code, e := varint.Count(x); e == api.OK {
			counts = append(counts, string(code))
		}
		texts = append(texts, string(varint.Text(strings.Repeat("\x00", x&1023))))
	}
	for _, l := range [][]string{ints, counts, texts} {
		slices.Sort(l)
		// What begins another one stands just ahead of one that it begins.
		for i := range len(l) - 1 {
			if l[i] != l[i+1] && strings.HasPrefix(l[i+1], l[i]) {
				t.Errorf("%.30q begins %.30q", l[i], l[i+1])
			}
		}
	}
	for i, l := range [][]string{ints, counts} {
		if len(slices.Compact(l)) != len(l) {
			t.Errorf("two numbers have one code (%d)", i)
		}
	}
}

func TestWhatIsReadHasThatCode(t *testing.T) {
	for x := range 1 << 17 {
		b := []byte{byte(x), byte(x >> 8), byte(x >> 16)}
		s := varint.From(b)
		n := s.Int()
		if code := varint.Int(n); !s.Bad() && (!bytes.HasPrefix(b, code) || s.Left() != len(b)-len(code)) {
			t.Fatalf("%v is read as %d, of code %v", b, n, code)
		}
		s = varint.From(b)
		n = s.Count(math.MaxInt)
		if code, _ := varint.Count(n); !s.Bad() && (!bytes.HasPrefix(b, code) || s.Left() != len(b)-len(code)) {
			t.Fatalf("%v is read as %d, of code %v", b, n, code)
		}
	}
}
