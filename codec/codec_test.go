package codec_test

import (
	"bytes"
	"math"
	"math/rand"
	"reflect"
	"strings"
	"testing"

	"tributary/api"
	"tributary/codec"
	"tributary/sample"
	"tributary/value"
	"tributary/varint"
)

// Values are put together as they are, so that lists may be empty or may not be.
var (
	null, number  = sample.Null(), sample.Number
	text, raw     = sample.Text, sample.Bytes
	array, doc    = sample.Array, sample.Doc
	within, alike = sample.Levels, sample.Alike
)

func truth(x int) api.Value      { return api.Value{Kind: api.KindBool, Int: x} }
func names(l ...string) []string { return l }

func letters(n int) string { return strings.Repeat("x", n) }

// known are whole values of every kind, with their codes and texts as the chapter's words say.
var known = []struct {
	v          api.Value
	code, text string
}{
	{null, "\x01", "null"},
	{truth(0), "\x02\x00", "false"},
	{truth(1), "\x02\x01", "true"},
	{number(0), "\x03\x00", "0"},
	{number(-1), "\x03\x01", "-1"},
	{number(1), "\x03\x02", "1"},
	{number(63), "\x03\x7e", "63"},
	{number(64), "\x03\x80\x01", "64"},
	{number(-64), "\x03\x7f", "-64"},
	{number(-65), "\x03\x81\x01", "-65"},
	{number(1000000), "\x03\x80\x89\x7a", "1000000"},
	{number(math.MaxInt), "\x03\xfe\xff\xff\xff\xff\xff\xff\xff\xff\x01", "9223372036854775807"},
	{number(math.MinInt), "\x03\xff\xff\xff\xff\xff\xff\xff\xff\xff\x01", "-9223372036854775808"},
	{text(""), "\x04\x00", `""`},
	{text("a"), "\x04\x01a", `"a"`},
	{text("null"), "\x04\x04null", `"null"`},
	{text(" !#[]^~"), "\x04\x07 !#[]^~", `" !#[]^~"`},
	{text("\x00\x1f\"\\\x7f\x80\xff"), "\x04\x07\x00\x1f\"\\\x7f\x80\xff", `"\x00\x1f\x22\x5c\x7f\x80\xff"`},
	{text("\u00e9\n"), "\x04\x03\xc3\xa9\n", `"\xc3\xa9\x0a"`},
	{text(letters(127)), "\x04\x7f" + letters(127), `"` + letters(127) + `"`},
	{text(letters(128)), "\x04\x80\x01" + letters(128), `"` + letters(128) + `"`},
	{raw(""), "\x05\x00", `h""`},
	{raw("ab"), "\x05\x02ab", `h"ab"`},
	{raw("\xab\"\xcd"), "\x05\x03\xab\"\xcd", `h"\xab\x22\xcd"`},
	{raw(letters(200)), "\x05\xc8\x01" + letters(200), `h"` + letters(200) + `"`},
	{array(), "\x06\x00", "[]"},
	{array(null), "\x06\x01\x01", "[null]"},
	{array(number(1), text("b"), raw(""), truth(1), array()), "\x06\x05\x03\x02\x04\x01b\x05\x00\x02\x01\x06\x00", `[1,"b",h"",true,[]]`},
	{array(array(array(doc(nil)))), "\x06\x01\x06\x01\x06\x01\x07\x00", "[[[{}]]]"},
	{doc(nil), "\x07\x00", "{}"},
	{doc(names("a"), number(5)), "\x07\x01\x01a\x03\x0a", `{"a":5}`},
	{doc(names("b", "a"), null, doc(names("a"), truth(0))), "\x07\x02\x01b\x01\x01a\x07\x01\x01a\x02\x00", `{"b":null,"a":{"a":false}}`},
	{doc(names(letters(32)), null), "\x07\x01\x20" + letters(32) + "\x01", `{"` + letters(32) + `":null}`},
	{doc(names("\x00", "a$", "\xff \"", "0"), null, null, null, null), "\x07\x04\x01\x00\x01\x02a$\x01\x03\xff \"\x01\x010\x01", `{"\x00":null,"a$":null,"\xff \x22":null,"0":null}`},
	{within(null, 7), "\x06\x01\x07\x01\x01a\x06\x01\x07\x01\x01a\x06\x01\x07\x01\x01a\x06\x01\x01", `[{"a":[{"a":[{"a":[null]}]}]}]`},
}

// refused are values that are not whole, and what is answered of them.
func refused() map[string]struct {
	v    api.Value
	want api.Errno
} {
	return map[string]struct {
		v    api.Value
		want api.Errno
	}{
		"nothing":                  {api.Value{}, api.ErrValue},
		"kind 8":                   {api.Value{Kind: 8}, api.ErrValue},
		"kind -1":                  {api.Value{Kind: -1}, api.ErrValue},
		"kind 256 + 1":             {api.Value{Kind: 257}, api.ErrValue},
		"null with a number":       {api.Value{Kind: api.KindNull, Int: 1}, api.ErrValue},
		"bool of 2":                {truth(2), api.ErrValue},
		"number with a text":       {api.Value{Kind: api.KindInt, Text: "a"}, api.ErrValue},
		"text with items":          {api.Value{Kind: api.KindText, Items: []api.Value{null}}, api.ErrValue},
		"array with names":         {api.Value{Kind: api.KindArray, Items: []api.Value{null}, Names: names("a")}, api.ErrValue},
		"document, names missing":  {doc(nil, null), api.ErrValue},
		"document, items missing":  {doc(names("a")), api.ErrValue},
		"a name twice":             {doc(names("a", "a"), null, null), api.ErrValue},
		"a name with a point":      {doc(names("a.b"), null), api.ErrValue},
		"a name of 33 bytes":       {doc(names(letters(33)), null), api.ErrValue},
		"nothing within":           {array(null, api.Value{}), api.ErrValue},
		"depth 9":                  {within(null, 8), api.ErrDepth},
		"depth 9, an empty array":  {within(array(), 8), api.ErrDepth},
		"depth 1000":               {within(null, 999), api.ErrDepth},
		"a text of size 4097":      {text(letters(4094)), api.ErrSize},
		"bytes of size 4097":       {raw(letters(4094)), api.ErrSize},
		"an array of size 4097":    {array(many(4094)...), api.ErrSize},
		"a document of size 4097":  {doc(names("abc"), text(letters(4088))), api.ErrSize},
		"too deep and too large":   {array(within(null, 8), text(letters(5000))), api.ErrDepth},
		"too deep and strange":     {within(api.Value{}, 8), api.ErrValue},
		"too large and strange":    {array(text(letters(5000)), truth(3)), api.ErrValue},
		"4097 in small ones":       {array(array(many(2044)...), array(many(2044)...), null), api.ErrSize},
		"a large one in small one": {within(text(letters(4096)), 3), api.ErrSize},
	}
}

// full are whole values at the limits.
func full() map[string]api.Value {
	return map[string]api.Value{
		"depth 8":                 within(null, 7),
		"depth 8, an empty array": within(array(), 7),
		"depth 8, an empty doc":   within(doc(nil), 7),
		"a text of size 4096":     text(letters(4093)),
		"bytes of size 4096":      raw(letters(4093)),
		"an array of size 4096":   array(many(4093)...),
		"a document of size 4096": doc(names("ab"), text(letters(4088))),
		"4096 in small ones":      array(array(many(2044)...), array(many(2043)...), null),
	}
}

func many(n int) []api.Value {
	l := make([]api.Value, n)
	for i := range l {
		l[i] = null
	}
	return l
}

// codeOf writes a code as the words say, of any value, whole or not.
func codeOf(v api.Value) string {
	code := string([]byte{byte(v.Kind)})
	switch v.Kind {
	case api.KindBool:
		code += string([]byte{byte(v.Int)})
	case api.KindInt:
		n := uint64(v.Int) << 1
		if v.Int < 0 {
			n = uint64(-(v.Int+1))<<1 + 1
		}
		code += groupsOf(n)
	case api.KindText, api.KindBytes:
		code += groupsOf(uint64(len(v.Text))) + v.Text
	case api.KindArray, api.KindDoc:
		parts := []string{groupsOf(uint64(len(v.Items)))}
		for i, x := range v.Items {
			if v.Kind == api.KindDoc {
				parts = append(parts, groupsOf(uint64(len(v.Names[i])))+v.Names[i])
			}
			parts = append(parts, codeOf(x))
		}
		code += strings.Join(parts, "")
	}
	return code
}

func groupsOf(n uint64) string {
	if n < 128 {
		return string([]byte{byte(n)})
	}
	return string([]byte{byte(n%128 + 128)}) + groupsOf(n/128)
}

// P3.1: Encode, Decode, Put.

func TestEncode(t *testing.T) {
	for _, c := range known {
		if b, e := codec.Encode(c.v); string(b) != c.code || e != api.OK {
			t.Errorf("Encode(%v) = %q, %d, want %q", c.v, b, e, c.code)
		}
	}
	for name, v := range full() {
		if b, e := codec.Encode(v); string(b) != codeOf(v) || e != api.OK {
			t.Errorf("%s: %d bytes, %d", name, len(b), e)
		}
	}
}

func TestEncodeRefuses(t *testing.T) {
	for name, c := range refused() {
		if b, e := codec.Encode(c.v); len(b) != 0 || e != c.want {
			t.Errorf("%s: %d bytes, %d, want %d", name, len(b), e, c.want)
		}
	}
}

func TestDecode(t *testing.T) {
	for _, c := range known {
		if v, e := codec.Decode([]byte(c.code)); !alike(v, c.v) || e != api.OK {
			t.Errorf("Decode(%q) = %v, %d", c.code, v, e)
		}
	}
	for name, want := range full() {
		if v, e := codec.Decode([]byte(codeOf(want))); !alike(v, want) || e != api.OK {
			t.Errorf("%s: %d", name, e)
		}
	}
}

// wrong are bytes that are no code.
func wrong() map[string]string {
	l := map[string]string{
		"no byte":                                   "",
		"kind 0":                                    "\x00",
		"kind 8":                                    "\x08",
		"kind 255":                                  "\xff",
		"kind 129, which ends as null":              "\x81",
		"a byte behind null":                        "\x01\x00",
		"two codes":                                 "\x03\x02\x03\x02",
		"a bool of 2":                               "\x02\x02",
		"a bool of 255":                             "\x02\xff",
		"a bool of nothing":                         "\x02",
		"a number of nothing":                       "\x03",
		"a number that does not end":                "\x03\x80",
		"a number with a group too many":            "\x03\x80\x00",
		"a number of 65 bits":                       "\x03\xff\xff\xff\xff\xff\xff\xff\xff\xff\x02",
		"a number of 11 groups":                     "\x03\xff\xff\xff\xff\xff\xff\xff\xff\xff\xff\x00",
		"a text without a count":                    "\x04",
		"a text shorter than its count":             "\x04\x03ab",
		"a text longer than its count":              "\x04\x01ab",
		"a text whose count has a group too many":   "\x04\x81\x00a",
		"an empty text, a group too many":           "\x04\x80\x00",
		"a text with a count above all":             "\x04\xff\xff\xff\xff\xff\xff\xff\xff\xff\x01",
		"a text with a count of 2^62":               "\x04\x80\x80\x80\x80\x80\x80\x80\x80\x40",
		"bytes shorter than their count":            "\x05\x03ab",
		"bytes whose count has a group too many":    "\x05\x81\x00a",
		"an array without a count":                  "\x06",
		"an array, an item missing":                 "\x06\x02\x01",
		"an array, items behind":                    "\x06\x01\x01\x01",
		"an array whose count has a group too many": "\x06\x81\x00\x01",
		"an empty array, a group too many":          "\x06\x80\x00",
		"an array with a great count":               "\x06\xff\xff\xff\xff\xff\xff\xff\xff\x3f",
		"an array with a count above all":           "\x06\xff\xff\xff\xff\xff\xff\xff\xff\xff\x01",
		"an array with an item of kind 0":           "\x06\x01\x00",
		"an array with an item of kind 8":           "\x06\x02\x01\x08",
		"an array with a bool of 2":                 "\x06\x02\x02\x02\x01",
		"a document without a count":                "\x07",
		"a document, all missing":                   "\x07\x01",
		"a document, an item missing":               "\x07\x01\x01a",
		"a document, a name missing":                "\x07\x02\x01a\x01",
		"a document, a name shorter than its count": "\x07\x01\x02a",
		"a document whose count is no code":         "\x07\x81\x00\x01a\x01",
		"a name whose count has a group too many":   "\x07\x01\x81\x00a\x01",
		"an empty name":                             "\x07\x01\x00\x01",
		"a name with a point":                       "\x07\x01\x03a.b\x01",
		"a name that is a point":                    "\x07\x01\x01.\x01",
		"a name with a dollar ahead":                "\x07\x01\x02$a\x01",
		"a name of 33 bytes":                        "\x07\x01\x21" + letters(33) + "\x01",
		"a name twice":                              "\x07\x02\x01a\x01\x01a\x01",
		"a name twice, another one between":         "\x07\x03\x01a\x01\x01b\x01\x01a\x01",
		"a name twice, within":                      "\x06\x01\x07\x02\x01a\x01\x01a\x01",
		"a name that may not be, within":            "\x06\x01\x07\x01\x01a\x07\x01\x01$\x01",
		"arrays without end":                        strings.Repeat("\x06\x01", 1<<20),
		"documents without end":                     strings.Repeat("\x07\x01\x01a", 1<<20),
		"many empty arrays":                         "\x06\x80\x20" + strings.Repeat("\x06\x00", 4096),
		"counts that say much in few bytes":         strings.Repeat("\x06\x80\x20", 8),
	}
	for name, c := range refused() {
		if c.want == api.ErrDepth || c.want == api.ErrSize {
			l["the code of what is refused: "+name] = codeOf(c.v)
		}
	}
	return l
}

func TestDecodeRefuses(t *testing.T) {
	for name, code := range wrong() {
		if v, e := codec.Decode([]byte(code)); !alike(v, api.Value{}) || e != api.ErrCode {
			t.Errorf("%s: %v, %d", name, v, e)
		}
	}
}

func TestDecodeEveryBeginningAndMore(t *testing.T) {
	for _, c := range known {
		for n := range len(c.code) {
			if v, e := codec.Decode([]byte(c.code[:n])); !alike(v, api.Value{}) || e != api.ErrCode {
				t.Errorf("%q without its end from %d on: %v, %d", c.code, n, v, e)
			}
		}
		for more := range 256 {
			if v, e := codec.Decode(append([]byte(c.code), byte(more))); !alike(v, api.Value{}) || e != api.ErrCode {
				t.Errorf("%q with %d behind: %v, %d", c.code, more, v, e)
			}
		}
	}
}

func TestPut(t *testing.T) {
	for _, c := range known {
		for _, ahead := range []string{"", "ab", letters(300)} {
			if b := codec.Put([]byte(ahead), c.v); string(b) != ahead+c.code {
				t.Errorf("Put(%q, %v) = %q", ahead, c.v, b)
			}
		}
	}
	for name, v := range full() {
		if b := codec.Put([]byte("ab"), v); string(b) != "ab"+codeOf(v) {
			t.Errorf("%s: %d bytes", name, len(b))
		}
	}
	for name, c := range refused() {
		if b := codec.Put([]byte("ab"), c.v); string(b) != "ab" {
			t.Errorf("%s: Put = %q", name, b)
		}
		if b := codec.Put(nil, c.v); len(b) != 0 {
			t.Errorf("%s: Put behind nothing = %q", name, b)
		}
	}
}

func TestPutLeavesWhatItIsGiven(t *testing.T) {
	for _, v := range []api.Value{doc(names("a"), number(5)), {}} {
		room := []byte("abcdefghijklmnop")
		b := codec.Put(room[:2], v)
		if string(room) != "abcdefghijklmnop" {
			t.Errorf("the room behind is %q", room)
		}
		want := string(b)
		clear(room)
		if string(b) != want {
			t.Error("the answer is what was handed in")
		}
		whole := b[:cap(b)]
		for i := range whole {
			whole[i] = 'z'
		}
		if !bytes.Equal(room, make([]byte, len(room))) {
			t.Error("the answer reaches into what was handed in")
		}
	}
}

// P3.2: Read.

func TestRead(t *testing.T) {
	all := ""
	for _, c := range known {
		all += c.code + "\x07"
	}
	s := varint.From([]byte(all))
	for _, c := range known {
		left := s.Left()
		if v := codec.Read(s); !alike(v, c.v) || s.Bad() || s.Left() != left-len(c.code) {
			t.Errorf("%v, want %v; bad %v", v, c.v, s.Bad())
		}
		if s.Byte() != 7 {
			t.Errorf("not just behind %v", c.v)
		}
	}
	if s.Done() != api.OK {
		t.Error("something is left")
	}
	for name, v := range full() {
		s := varint.From([]byte(codeOf(v) + letters(9000)))
		if got := codec.Read(s); !alike(got, v) || s.Left() != 9000 {
			t.Errorf("%s, with more behind: %v", name, s.Bad())
		}
	}
}

func TestReadWhatIsNoCode(t *testing.T) {
	for name, code := range wrong() {
		s := varint.From([]byte(code))
		v := codec.Read(s)
		if s.Left() > 0 && s.Left() < len(code) && !s.Bad() {
			// A code with something behind: that is what comes next.
			if b, e := codec.Encode(v); e != api.OK || string(b) != code[:len(b)] || s.Left() != len(code)-len(b) {
				t.Errorf("%s: %v", name, v)
			}
			continue
		}
		if !alike(v, api.Value{}) || !s.Bad() || s.Left() != 0 || s.Done() != api.ErrCode {
			t.Errorf("%s: %v, bad %v", name, v, s.Bad())
		}
	}
	for _, c := range known {
		for n := range len(c.code) {
			s := varint.From([]byte(c.code[:n]))
			if v := codec.Read(s); !alike(v, api.Value{}) || !s.Bad() {
				t.Errorf("%q without its end from %d on: %v", c.code, n, v)
			}
		}
	}
}

func TestReadOfBadSources(t *testing.T) {
	if v := codec.Read(nil); !alike(v, api.Value{}) {
		t.Error("of no source:", v)
	}
	s := varint.From([]byte("\x01\x01"))
	s.Spoil()
	if v := codec.Read(s); !alike(v, api.Value{}) || !s.Bad() || s.Left() != 0 {
		t.Error("of a bad source:", v)
	}
	s = varint.From([]byte("\x01\x00\x01"))
	if v := codec.Read(s); !alike(v, null) || s.Bad() {
		t.Error("the first one:", v)
	}
	for range 3 {
		if v := codec.Read(s); !alike(v, api.Value{}) || !s.Bad() {
			t.Error("behind a kind 0:", v)
		}
	}
}

// P3.3: what was encoded is decoded, what was decoded has that code.

// reference decodes the code that b begins with, and answers what is behind it. Without a value that may be whole it answers false.
func reference(b string) (v api.Value, rest string, ok bool) {
	if b == "" {
		return v, "", false
	}
	v.Kind, rest = int(b[0]), b[1:]
	switch v.Kind {
	case api.KindNull:
		return v, rest, true
	case api.KindBool:
		if rest == "" || rest[0] > 1 {
			return v, "", false
		}
		v.Int = int(rest[0])
		return v, rest[1:], true
	}
	n, rest, ok := referenceCount(rest)
	if !ok {
		return v, "", false
	}
	switch v.Kind {
	case api.KindInt:
		v.Int = int(n / 2)
		if n%2 == 1 {
			v.Int = -v.Int - 1
		}
		return v, rest, true
	case api.KindText, api.KindBytes:
		if n > uint64(len(rest)) {
			return v, "", false
		}
		v.Text = rest[:n]
		return v, rest[n:], true
	case api.KindArray, api.KindDoc:
		for range n {
			if v.Kind == api.KindDoc {
				size, behind, ok := referenceCount(rest)
				if !ok || size > uint64(len(behind)) {
					return v, "", false
				}
				v.Names, rest = append(v.Names, behind[:size]), behind[size:]
			}
			var x api.Value
			if x, rest, ok = reference(rest); !ok {
				return v, "", false
			}
			v.Items = append(v.Items, x)
		}
		return v, rest, true
	}
	return v, "", false
}

func referenceCount(b string) (n uint64, rest string, ok bool) {
	for i := range len(b) {
		n += uint64(b[i]%128) << (7 * i)
		if b[i] < 128 {
			return n, b[i+1:], groupsOf(n) == b[:i+1]
		}
	}
	return 0, "", false
}

// each calls see with all texts of the parts, up to so many.
func each(parts []string, most int, see func(s string)) {
	var add func(s string, left int)
	add = func(s string, left int) {
		see(s)
		if left > 0 {
			for _, part := range parts {
				add(s+part, left-1)
			}
		}
	}
	add("", most)
}

func TestAllShortCodes(t *testing.T) {
	found := 0
	each([]string{"\x00", "\x01", "\x02", "\x03", "\x04", "\x05", "\x06", "\x07", "\x08", "a", "$", ".", "\x80", "\xff"}, 5, func(s string) {
		want, rest, ok := reference(s)
		ok = ok && rest == "" && value.Check(want) == api.OK
		v, e := codec.Decode([]byte(s))
		if ok != (e == api.OK) || ok && !alike(v, want) || !ok && (e != api.ErrCode || !alike(v, api.Value{})) {
			t.Fatalf("Decode(%q) = %v, %d, want %v, %v", s, v, e, want, ok)
		}
		if !ok {
			return
		}
		found++
		if b, e := codec.Encode(v); string(b) != s || e != api.OK || value.Size(v) != len(s) {
			t.Fatalf("%q is decoded, and encoded as %q; its size is %d", s, b, value.Size(v))
		}
	})
	if found < 1000 {
		t.Error("just so many codes:", found)
	}
}

// random is some value that may be, not deeper than so many levels.
func random(r *rand.Rand, levels int) api.Value {
	kinds := 7
	if levels <= 1 {
		kinds = 5
	}
	v := api.Value{Kind: 1 + r.Intn(kinds)}
	switch v.Kind {
	case api.KindBool:
		v.Int = r.Intn(2)
	case api.KindInt:
		v.Int = int(r.Uint64()) >> r.Intn(64)
	case api.KindText, api.KindBytes:
		b := make([]byte, r.Intn(40))
		r.Read(b)
		v.Text = string(b)
	case api.KindArray, api.KindDoc:
		for range r.Intn(5) {
			v.Items = append(v.Items, random(r, levels-1))
		}
		if v.Kind == api.KindDoc {
			for i := range v.Items {
				v.Names = append(v.Names, string([]byte{byte('a' + i), byte(128 + r.Intn(128))}))
			}
		}
	}
	return v
}

func TestCodesThereAndBack(t *testing.T) {
	r := rand.New(rand.NewSource(3))
	for range 20000 {
		v := random(r, 8)
		b, e := codec.Encode(v)
		if e == api.ErrSize && value.Size(v) > api.MaxSize {
			continue
		}
		if e != api.OK || len(b) != value.Size(v) || string(b) != codeOf(v) {
			t.Fatalf("Encode(%v) = %q, %d", v, b, e)
		}
		if back, e := codec.Decode(b); e != api.OK || !alike(back, v) {
			t.Fatalf("Decode(%q) = %v, %d, want %v", b, back, e, v)
		}
		b[r.Intn(len(b))] ^= 1 << r.Intn(8)
		if other, e := codec.Decode(b); e == api.OK {
			if again, _ := codec.Encode(other); !bytes.Equal(again, b) {
				t.Fatalf("%q is decoded, and encoded as %q", b, again)
			}
		}
	}
}

func TestSizes(t *testing.T) {
	for _, c := range known {
		if value.Size(c.v) != len(c.code) {
			t.Errorf("the size of %v is %d, its code has %d bytes", c.v, value.Size(c.v), len(c.code))
		}
	}
}

// What is handed in is not changed and not kept; what is answered is new memory.

func nested() api.Value {
	return doc(names("a", "b"), array(number(1), doc(names("c"), array(number(2)))), doc(names("d", "e"), null, text("t")))
}

func TestNothingIsChanged(t *testing.T) {
	v := nested()
	items, all := [...]api.Value{nested(), null, number(7)}, names("x", "y", "z")
	codec.Encode(v)
	codec.Put(nil, v)
	codec.Print(v)
	codec.Encode(doc(all[:1], items[:1]...))
	codec.Put(nil, doc(all[:1], items[:1]...))
	codec.Print(doc(all[:1], items[:1]...))
	if !reflect.DeepEqual(v, nested()) || !reflect.DeepEqual(items[:], []api.Value{nested(), null, number(7)}) || !reflect.DeepEqual(all, names("x", "y", "z")) {
		t.Error("a value that was handed in is changed")
	}
	b, _ := codec.Encode(v)
	code := string(b)
	room := append([]byte(code), "behind"...)
	codec.Decode(room[:len(code)])
	codec.Read(varint.From(room[:len(code)]))
	if string(room) != code+"behind" {
		t.Error("bytes that were handed in are changed")
	}
}

func TestAnswersAreNewMemory(t *testing.T) {
	b, _ := codec.Encode(nested())
	code := string(b)
	v, _ := codec.Decode(b)
	s := varint.From(b)
	w := codec.Read(s)
	clear(b[:cap(b)])
	if !alike(v, nested()) || !alike(w, nested()) {
		t.Error("what was decoded changes with its code")
	}
	sample.Spoil(w)
	if !alike(v, nested()) {
		t.Error("two answers are one")
	}
	v.Items[0].Items = append(v.Items[0].Items, null)
	v.Names = append(v.Names[:1], "z")
	if again, e := codec.Decode([]byte(code)); !alike(again, nested()) || e != api.OK {
		t.Error("an answer is kept")
	}
	v, _ = codec.Parse(`[[1,2],[1,2],{"a":[1,2]}]`)
	sample.Spoil(v.Items[0])
	v.Items[0].Items = append(v.Items[0].Items, null)
	if !alike(v.Items[1], array(number(1), number(2))) || !alike(v.Items[2], doc(names("a"), array(number(1), number(2)))) {
		t.Error("two lists of an answer are one")
	}
}
