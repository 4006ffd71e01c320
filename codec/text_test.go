package codec_test

import (
	"encoding/json"
	"fmt"
	"math/rand"
	"strconv"
	"strings"
	"testing"

	"tributary/api"
	"tributary/codec"
	"tributary/value"
)

// P3.4: Print, Parse.

func TestPrint(t *testing.T) {
	for _, c := range known {
		if s, e := codec.Print(c.v); s != c.text || e != api.OK {
			t.Errorf("Print(%v) = %s, %d, want %s", c.v, s, e, c.text)
		}
	}
	for name, c := range refused() {
		if s, e := codec.Print(c.v); s != "" || e != c.want {
			t.Errorf("%s: %d bytes, %d, want %d", name, len(s), e, c.want)
		}
	}
}

func TestParse(t *testing.T) {
	for _, c := range known {
		if v, e := codec.Parse(c.text); !alike(v, c.v) || e != api.OK {
			t.Errorf("Parse(%s) = %v, %d", c.text, v, e)
		}
	}
	for name, want := range full() {
		s, e := codec.Print(want)
		if e != api.OK {
			t.Errorf("%s is not printed: %d", name, e)
		}
		if v, e := codec.Parse(s); !alike(v, want) || e != api.OK {
			t.Errorf("%s is not parsed: %d", name, e)
		}
	}
}

func parses(t *testing.T, s string, want api.Value) {
	t.Helper()
	if v, e := codec.Parse(s); !alike(v, want) || e != api.OK {
		t.Errorf("Parse(%q) = %v, %d, want %v", s, v, e, want)
	}
}

func parsesNot(t *testing.T, s string) {
	t.Helper()
	if v, e := codec.Parse(s); !alike(v, api.Value{}) || e != api.ErrCode {
		t.Errorf("Parse(%.80q) = %v, %d, want %d", s, v, e, api.ErrCode)
	}
}

func TestEachByteInTexts(t *testing.T) {
	for c := range 256 {
		itself, escaped := string([]byte{byte(c)}), fmt.Sprintf(`\x%02x`, c)
		plain := c >= 32 && c <= 126 && c != '"' && c != '\\'
		want := escaped
		if plain {
			want = itself
		}
		for kind, ahead := range map[int]string{api.KindText: "", api.KindBytes: "h"} {
			v := api.Value{Kind: kind, Text: itself}
			if s, e := codec.Print(v); s != ahead+`"`+want+`"` || e != api.OK {
				t.Errorf("byte %d is printed as %s", c, s)
			}
			parses(t, ahead+`"`+escaped+`"`, v)
			parses(t, ahead+`"a`+escaped+escaped+`1"`, api.Value{Kind: kind, Text: "a" + itself + itself + "1"})
			if plain {
				parses(t, ahead+`"`+itself+`"`, v)
				parses(t, ahead+`"a`+itself+`b"`, api.Value{Kind: kind, Text: "a" + itself + "b"})
			} else {
				parsesNot(t, ahead+`"`+itself+`"`)
				parsesNot(t, ahead+`"a`+itself+`b"`)
			}
		}
		if value.Name(itself) {
			parses(t, `{"`+escaped+`":1}`, doc(names(itself), number(1)))
		} else {
			parsesNot(t, `{"`+escaped+`":1}`)
		}
		capital := strings.ToUpper(escaped[2:])
		if capital != escaped[2:] {
			parsesNot(t, `"\x`+capital+`"`)
			parsesNot(t, `h"\x`+capital+`"`)
			parsesNot(t, `{"`+`\x`+capital+`":1}`)
		}
		if c != ' ' && c != '"' {
			parsesNot(t, itself+"null"+itself)
		}
	}
}

func TestEachByteAsADigit(t *testing.T) {
	for c := range 256 {
		high, low := string([]byte{'"', '\\', 'x', byte(c), '0', '"'}), string([]byte{'"', '\\', 'x', '0', byte(c), '"'})
		digit := strings.IndexByte("0123456789abcdef", byte(c))
		if digit >= 0 {
			parses(t, high, text(string([]byte{byte(16 * digit)})))
			parses(t, low, text(string([]byte{byte(digit)})))
		} else {
			parsesNot(t, high)
			parsesNot(t, low)
		}
	}
}

func TestTextsThatAreNone(t *testing.T) {
	for _, s := range []string{
		"", " ", "\"", `"a`, `a"`, "a", `"a""b"`, `"a"b"`, `'a'`, `"\"`, `"\""`, `"\\"`, `"\n"`, `"\u0061"`, `"\x"`, `"\x6"`, `"\x6`, `"\x`, `"\`, `"\x 61"`, `"\ x61"`, `"\X61"`, `"\x6g"`, `"\xg6"`, `"\x-1"`, `"\x+1"`, `"x61\"`,
		"h", `h"`, `h"a`, `h a"`, `h "a"`, `H"a"`, `hh"a"`, `ha`, `h1`, `h'a'`,
		"n", "nul", "nulll", "Null", "NULL", "nil", "n ull", "null null", "null,", ",null", "nullnull", "true1", "1true",
		"t", "tru", "True", "truefalse", "t rue", "f", "fals", "False", "fal se", "yes",
		"[", "]", "[[", "[]]", "[[]", "][", "[,]", "[1,]", "[,1]", "[1,,2]", "[1 2]", "[1;2]", "[1", "[1,", "1]", "[1}", "{1]", "[:]", "[1:2]", "[\"a\":1]", "[1]1", "[1][2]", "[null", "[]null", "(1)",
		"{", "}", "{{}}", "{}}", "{,}", `{"a"}`, `{"a":}`, `{"a":1,}`, `{,"a":1}`, `{:1}`, `{"a":1`, `{"a":`, `{"a"`, `{"a":1]`, `{"a":1 "b":2}`, `{"a":1,"b"}`, `{"a":1,,"b":2}`, `{"a"::1}`, `{"a",1}`, `{"a" 1}`, `{"a"1}`, `{a:1}`, `{1:1}`, `{null:1}`, `{h"a":1}`, `{["a"]:1}`, `{"a":1}{}`, `{"a":1:2}`, `{"a":"b":"c"}`, "{1}", "{1,2}",
		`{"a":1,"a":1}`, `{"a":1,"b":1,"a":2}`, `{"a":1,"\x61":2}`, `{"":1}`, `{".":1}`, `{"a.b":1}`, `{"\x2e":1}`, `{"$":1}`, `{"$a":1}`, `{"\x24a":1}`, `{"` + letters(33) + `":1}`, `[{"a":[{"a.":1}]}]`, `[{"b":1,"b":2}]`,
	} {
		parsesNot(t, s)
		if strings.Trim(s, " ") != "" {
			parsesNot(t, "["+s+"]")
			parsesNot(t, `{"z":`+s+"}")
		}
	}
}

func TestNumbers(t *testing.T) {
	for s, want := range map[string]int{"0": 0, "7": 7, "-7": -7, "10": 10, "-10": -10, "100": 100, "907": 907, "9223372036854775807": 1<<63 - 1, "-9223372036854775808": -1 << 63, "9223372036854775806": 1<<63 - 2, "-9223372036854775807": 1 - 1<<63} {
		parses(t, s, number(want))
		parses(t, " "+s+" ", number(want))
		parses(t, "["+s+","+s+"]", array(number(want), number(want)))
	}
	for _, s := range []string{"-", "--1", "-0", "-00", "00", "01", "-01", "007", "0 0", "1 1", "- 1", "1-", "1-1", "-1-", "0-1", "+1", "+0", "+", "1.0", ".5", "1.", "1e3", "1E3", "0x10", "0b1", "0o7", "1_000", "1,000", "a1", "1a", "\u0661", "\uff11", "infinity", "nan",
		"9223372036854775808", "-9223372036854775809", "18446744073709551616", "18446744073709551615", "99999999999999999999", "-99999999999999999999", "1" + strings.Repeat("0", 5000), "-" + strings.Repeat("9", 5000), strings.Repeat("0", 5000), strings.Repeat("-", 5000), "0000000000000000000000001"} {
		parsesNot(t, s)
		parsesNot(t, "["+s+"]")
		parsesNot(t, `{"a":`+s+"}")
	}
}

func TestBlanks(t *testing.T) {
	want := doc(names("a", "b", "c d"), array(number(-1), truth(1), null, array(), text("e f"), raw("g h")), doc(nil), truth(0))
	parts := []string{"{", `"a"`, ":", "[", "-1", ",", "true", ",", "null", ",", "[", "]", ",", `"e f"`, ",", `h"g h"`, "]", ",", `"b"`, ":", "{", "}", ",", `"c d"`, ":", "false", "}"}
	all := strings.Join(parts, "")
	if s, e := codec.Print(want); s != all || e != api.OK {
		t.Fatalf("Print: %s", s)
	}
	for i := range len(parts) + 1 {
		ahead, behind := strings.Join(parts[:i], ""), strings.Join(parts[i:], "")
		for _, blanks := range []string{" ", "  ", strings.Repeat(" ", 10000)} {
			parses(t, ahead+blanks+behind, want)
		}
		for _, other := range []string{"\t", "\n", "\r", "\v", "\f", "\x00", "\u00a0", "\u2003", "\u3000", " \t", "_", "#"} {
			parsesNot(t, ahead+other+behind)
		}
	}
	parses(t, "   "+strings.Join(parts, "   ")+"   ", want)
}

func TestBlanksWhereTheyMayNotStand(t *testing.T) {
	for _, token := range []string{"null", "true", "false", "12", "-12", "-1", `h""`, `h"a"`} {
		for i := 1; i < len(token); i++ {
			s := token[:i] + " " + token[i:]
			if strings.HasPrefix(token, "h") && i > 1 {
				continue // Within the quotes a blank is a byte as others are.
			}
			parsesNot(t, s)
			parsesNot(t, "["+s+"]")
			parsesNot(t, `{"a":`+s+"}")
		}
	}
	for _, s := range []string{`"\ x61"`, `"\x 61"`, `"\x6 1"`, `h"\x6 1"`, `{"\x6 1":1}`} {
		parsesNot(t, s)
	}
	parses(t, `" a "`, text(" a "))
	parses(t, `{" a ":1}`, doc(names(" a "), number(1)))
	parses(t, `"\x61 "`, text("a "))
}

func TestLimitsOfTexts(t *testing.T) {
	parses(t, strings.Repeat("[", 7)+"1"+strings.Repeat("]", 7), array(array(array(array(array(array(array(number(1)))))))))
	for _, s := range []string{
		strings.Repeat("[", 8) + "1" + strings.Repeat("]", 8),
		strings.Repeat("[", 1<<20), strings.Repeat(`{"a":`, 1<<20), strings.Repeat("[ ", 1<<20), strings.Repeat("[", 1<<20) + strings.Repeat("]", 1<<20),
		"[" + strings.Repeat("1,", 1<<20) + "1]", strings.Repeat("[[],", 1<<20), `"` + letters(1<<20) + `"`,
		`"` + letters(4094) + `"`, `h"` + strings.Repeat(`\x61`, 4094) + `"`, "[" + strings.Repeat("null,", 4093) + "null]", `{"abc":"` + letters(4088) + `"}`,
		`{"` + strings.Repeat(`\x61`, 33) + `":1}`,
	} {
		parsesNot(t, s)
	}
	parses(t, strings.Repeat(" ", 1<<20)+"1", number(1))
	parses(t, "1"+strings.Repeat(" ", 1<<20), number(1))
	parses(t, `"`+strings.Repeat(`\x61`, 4093)+`"`, text(strings.Repeat("a", 4093)))
	parses(t, "["+strings.Repeat("null , ", 4092)+"null]", array(many(4093)...))
	parses(t, `{"`+strings.Repeat(`\x61`, 32)+`":1}`, doc(names(strings.Repeat("a", 32)), number(1)))
}

// fromJson is the value that a text without bytes and escapes says, as the library for such texts reads it.
func fromJson(d *json.Decoder) (api.Value, bool) {
	token, err := d.Token()
	if err != nil {
		return api.Value{}, false
	}
	switch x := token.(type) {
	case nil:
		return null, true
	case bool:
		return value.Bool(x), true
	case json.Number:
		n, err := strconv.Atoi(x.String())
		return number(n), err == nil && x != "-0"
	case string:
		return text(x), true
	}
	v := array()
	if token == json.Delim('{') {
		v = doc(nil)
	}
	for d.More() {
		if v.Kind == api.KindDoc {
			name, err := d.Token()
			if err != nil {
				return v, false
			}
			v.Names = append(v.Names, name.(string))
		}
		x, ok := fromJson(d)
		if !ok {
			return v, false
		}
		v.Items = append(v.Items, x)
	}
	_, err = d.Token()
	return v, err == nil && value.May(v)
}

func TestAllShortTexts(t *testing.T) {
	found := 0
	each([]string{"[", "]", "{", "}", ",", ":", `"a"`, `"b"`, "null", "true", "1", "0", "-", " "}, 5, func(s string) {
		var want api.Value
		ok := json.Valid([]byte(s))
		if ok {
			d := json.NewDecoder(strings.NewReader(s))
			d.UseNumber()
			want, ok = fromJson(d)
		}
		v, e := codec.Parse(s)
		if ok != (e == api.OK) || ok && !alike(v, want) || !ok && (e != api.ErrCode || !alike(v, api.Value{})) {
			t.Fatalf("Parse(%q) = %v, %d, want %v, %v", s, v, e, want, ok)
		}
		if ok {
			found++
		}
	})
	for _, s := range []string{`{"a":1,"b":[1,{}]}`, `[[],{"a":"b"},-10]`} {
		parses(t, s, mustJson(s))
	}
	if found < 400 {
		t.Error("just so many texts:", found)
	}
}

func mustJson(s string) api.Value {
	d := json.NewDecoder(strings.NewReader(s))
	d.UseNumber()
	v, _ := fromJson(d)
	return v
}

// P3.5: what was printed is parsed.

func TestTextsThereAndBack(t *testing.T) {
	r := rand.New(rand.NewSource(5))
	for range 20000 {
		v := random(r, 8)
		s, e := codec.Print(v)
		if e == api.ErrSize && value.Size(v) > api.MaxSize {
			continue
		}
		if e != api.OK || strings.ContainsFunc(s, func(c rune) bool { return c < 32 || c > 126 }) {
			t.Fatalf("Print(%v) = %q, %d", v, s, e)
		}
		if back, e := codec.Parse(s); e != api.OK || !alike(back, v) {
			t.Fatalf("Parse(%s) = %v, %d, want %v", s, back, e, v)
		}
		b := []byte(s)
		b[r.Intn(len(b))] = ` !"\[]{},:-0159anthfx`[r.Intn(21)]
		if other, e := codec.Parse(string(b)); e == api.OK {
			again, _ := codec.Print(other)
			if back, e := codec.Parse(again); e != api.OK || !alike(back, other) {
				t.Fatalf("%s is parsed, and printed as %s", b, again)
			}
		} else if e != api.ErrCode || !alike(other, api.Value{}) {
			t.Fatalf("Parse(%s) = %v, %d", b, other, e)
		}
	}
}
