package cluster_test

import (
	"fmt"
	"math"
	"slices"
	"strings"
	"testing"

	"tributary/api"
	"tributary/cluster"
	"tributary/sample"
	"tributary/varint"
)

// P26.4, P26.5: scripts.

// theirs are the fields that steps of a kind look at, by letters: Node, N (x), M, Cursor, Ask, Filter, Token, Keep.
var theirs = [15]string{1: "N", 2: "x", 3: "x", 4: "x", 5: "NA", 6: "NA", 7: "N", 8: "NK", 9: "N", 10: "NxM", 11: "NxCF", 12: "NxC", 13: "NMCFT", 14: "N"}

// letters are all fields.
const letters = "NxMCAFTK"

func long(n int) string { return strings.Repeat("x", n) }

// with answers a with the field of a letter as it is in b.
func with(a, b api.Act, field rune) api.Act {
	switch field {
	case 'N':
		a.Node = b.Node
	case 'x':
		a.N = b.N
	case 'M':
		a.M = b.M
	case 'C':
		a.Cursor = b.Cursor
	case 'A':
		a.Ask = b.Ask
	case 'F':
		a.Filter = b.Filter
	case 'T':
		a.Token = b.Token
	case 'K':
		a.Keep = b.Keep
	}
	return a
}

// fullAct has something in each field.
func fullAct() api.Act {
	return api.Act{
		Node: 1, N: 2, M: 3, Cursor: 4,
		Ask: api.Ask{
			Kind: 2, Coll: "c", To: "d", Id: sample.Number(5), Doc: sample.Item(sample.Array(sample.Null(), sample.Text("t")), sample.Bytes("\x00b")),
			Spec: sample.Ops(sample.Op(api.OpSet, "a.b", sample.Array(sample.Null())), sample.Unset("c"), sample.Rename("d.e", "f")), Session: 6, Number: 7,
		},
		Filter: api.Filter{Coll: "c", Path: []string{"a", "", "b"}, Kinds: 4},
		Token:  []byte("token"),
		Keep:   []api.Keep{{Name: "log00000001", N: 3}, {Name: "", N: -1}, {Name: "vote", N: 0}},
	}
}

// fullOf answers the step of a kind that has something in each field that it looks at.
func fullOf(kind int) api.Act {
	a := api.Act{Kind: kind}
	for _, field := range theirs[kind] {
		a = with(a, fullAct(), field)
	}
	return a
}

// edges are values of one field that may be written, each at some edge.
func edges() map[rune][]api.Act {
	m := map[rune][]api.Act{}
	for _, n := range []int{0, 1, -1, 63, 64, -64, -65, 8191, 8192, 1 << 32, math.MaxInt, math.MinInt} {
		m['N'] = append(m['N'], api.Act{Node: n})
		m['x'] = append(m['x'], api.Act{N: n})
		m['M'] = append(m['M'], api.Act{M: n})
		m['C'] = append(m['C'], api.Act{Cursor: n})
		m['A'] = append(m['A'], api.Act{Ask: api.Ask{Kind: n}}, api.Act{Ask: api.Ask{Session: n}}, api.Act{Ask: api.Ask{Number: n}})
		m['F'] = append(m['F'], api.Act{Filter: api.Filter{Kinds: n}})
		m['K'] = append(m['K'], api.Act{Keep: []api.Keep{{Name: "f", N: n}}})
	}
	for _, s := range []string{"", "c", "$", "\x00", "\xff\xfe", long(31), long(32)} {
		m['A'] = append(m['A'], api.Act{Ask: api.Ask{Coll: s}}, api.Act{Ask: api.Ask{To: s}})
		m['F'] = append(m['F'], api.Act{Filter: api.Filter{Coll: s}}, api.Act{Filter: api.Filter{Path: []string{s}}}, api.Act{Filter: api.Filter{Path: slices.Repeat([]string{s}, 8)}})
	}
	for _, s := range []string{"", "f", "\x00", long(23), long(24)} {
		m['K'] = append(m['K'], api.Act{Keep: []api.Keep{{Name: s}}}, api.Act{Keep: slices.Repeat([]api.Keep{{Name: s}}, 16)})
	}
	for _, v := range []api.Value{{}, sample.Null(), sample.Number(math.MinInt), sample.Text(""), sample.Deep(7), sample.Text(long(4093)), sample.Item(sample.Null(), sample.Text("x"))} {
		m['A'] = append(m['A'], api.Act{Ask: api.Ask{Id: v}}, api.Act{Ask: api.Ask{Doc: v}}, api.Act{Ask: api.Ask{Id: v, Doc: v}})
	}
	for _, s := range []api.Spec{{}, sample.Replace(sample.Doc(nil)), sample.Replace(sample.One("a", sample.Null())), sample.Ops(sample.Unset("a")), fullAct().Ask.Spec} {
		m['A'] = append(m['A'], api.Act{Ask: api.Ask{Spec: s}}, api.Act{Ask: api.Ask{Id: sample.Null(), Spec: s}}, api.Act{Ask: api.Ask{Doc: sample.Null(), Spec: s}})
	}
	for _, n := range []int{0, 1, 63, 64} {
		m['T'] = append(m['T'], api.Act{Token: []byte(long(n))}, api.Act{Token: make([]byte, n)})
	}
	return m
}

// wrongs are values of one field that may not be written.
func wrongs() map[rune][]api.Act {
	m := map[rune][]api.Act{'T': {{Token: make([]byte, 65)}, {Token: make([]byte, 1<<16)}}}
	for _, s := range []string{long(33), long(1 << 16)} {
		m['A'] = append(m['A'], api.Act{Ask: api.Ask{Coll: s}}, api.Act{Ask: api.Ask{To: s}})
		m['F'] = append(m['F'], api.Act{Filter: api.Filter{Coll: s}}, api.Act{Filter: api.Filter{Path: []string{"a", s}}})
	}
	m['F'] = append(m['F'], api.Act{Filter: api.Filter{Path: slices.Repeat([]string{"a"}, 9)}}, api.Act{Filter: api.Filter{Path: make([]string, 1<<16)}})
	m['K'] = append(m['K'], api.Act{Keep: []api.Keep{{Name: "a"}, {Name: long(25)}}}, api.Act{Keep: make([]api.Keep, 17)})
	for _, v := range []api.Value{{Int: 1}, {Text: "x"}, {Kind: 8}, {Items: []api.Value{{}}}, {Names: []string{""}}, {Kind: api.KindBool, Int: 2}, sample.Deep(8), sample.Deep(3000), sample.Text(long(4094)), sample.Doc([]string{"a", "a"}, sample.Null(), sample.Null())} {
		m['A'] = append(m['A'], api.Act{Ask: api.Ask{Id: v}}, api.Act{Ask: api.Ask{Doc: v}})
	}
	for _, s := range []api.Spec{
		{Replace: true}, {Doc: sample.Doc(nil)}, {Doc: sample.Null()}, sample.Replace(sample.Item(sample.Null())), sample.Replace(sample.Null()), {Replace: true, Doc: sample.Doc(nil), Ops: []api.Op{sample.Unset("a")}},
		sample.Ops(sample.Unset("_id")), sample.Ops(sample.Unset("a"), sample.Unset("a.b")), sample.Ops(api.Op{}), sample.Ops(slices.Repeat([]api.Op{sample.Unset("a")}, 17)...),
	} {
		m['A'] = append(m['A'], api.Act{Ask: api.Ask{Spec: s}}, api.Act{Ask: api.Ask{Id: sample.Null(), Doc: sample.Null(), Spec: s}})
	}
	return m
}

// good are steps that may be written.
func good() []api.Act {
	var l []api.Act
	for kind := 1; kind <= 14; kind++ {
		l = append(l, api.Act{Kind: kind}, fullOf(kind), api.Act{Kind: kind, Token: []byte{}, Keep: []api.Keep{}, Filter: api.Filter{Path: []string{}}})
		for _, field := range theirs[kind] {
			l = append(l, with(api.Act{Kind: kind}, fullAct(), field), with(fullOf(kind), api.Act{}, field))
			for _, x := range edges()[field] {
				l = append(l, with(api.Act{Kind: kind}, x, field), with(fullOf(kind), x, field))
			}
		}
	}
	return l
}

// bad are steps that may not be written: each has one field alone that is to blame.
func bad() []api.Act {
	var l []api.Act
	for _, kind := range []int{0, -1, 15, 16, 255, 256, 257, 1<<32 + 1, math.MinInt, math.MaxInt} {
		l = append(l, api.Act{Kind: kind})
	}
	for kind := 1; kind <= 14; kind++ {
		for _, field := range letters {
			if !strings.ContainsRune(theirs[kind], field) {
				// The least of what a field may have is too much where it is not looked at.
				l = append(l, with(fullOf(kind), fullAct(), field))
				for _, x := range edges()[field] {
					if !sample.AlikeActs(x, api.Act{}) {
						l = append(l, with(api.Act{Kind: kind}, x, field))
					}
				}
			}
			for _, x := range wrongs()[field] {
				l = append(l, with(api.Act{Kind: kind}, x, field), with(fullOf(kind), x, field))
			}
		}
	}
	return l
}

// reads answers the step whose code comes first in b, and how many bytes that has; false, if there is none.
func reads(b string) (api.Act, int, bool) {
	s := varint.From([]byte(b))
	a := cluster.Read(s)
	return a, len(b) - s.Left(), !s.Bad()
}

func TestCodes(t *testing.T) {
	for _, c := range []struct {
		a    api.Act
		want string
	}{
		{api.Act{Kind: api.ActTick, Node: 2}, "\x01\x04\x00\x00\x00"},
		{api.Act{Kind: api.ActArrive, N: 1}, "\x02\x00\x02\x00\x00"},
		{api.Act{Kind: api.ActCopy}, "\x03\x00\x00\x00\x00"},
		{api.Act{Kind: api.ActLose, N: -1}, "\x04\x00\x01\x00\x00"},
		{api.Act{Kind: api.ActCompact, Node: 64}, "\x07\x80\x01\x00\x00\x00"},
		{api.Act{Kind: api.ActBoot, Node: -1}, "\x09\x01\x00\x00\x00"},
		{api.Act{Kind: api.ActStop, Node: 1, N: -1, M: 5}, "\x0a\x02\x01\x0a\x00"},
		{api.Act{Kind: api.ActPoll, Node: 1, N: 2, Cursor: 3}, "\x0c\x02\x04\x00\x06"},
		{api.Act{Kind: api.ActCut, Node: 6}, "\x0e\x0c\x00\x00\x00"},
		{api.Act{Kind: api.ActAsk}, "\x05\x00\x00\x00\x00" + "\x00\x00\x00" + "\x00\x00" + "\x00"},
		{api.Act{Kind: api.ActAsk, Node: 1, Ask: api.Ask{Kind: 2, Session: 1, Number: 3, Coll: "c", To: "de", Id: sample.Number(5), Spec: sample.Ops(sample.Unset("a"))}}, "\x05\x02\x00\x00\x00" + "\x04\x02\x06" + "\x01c\x02de" + "\x05" + "\x03\x0a" + "\x00\x01\x02\x01\x01a"},
		{api.Act{Kind: api.ActFind, Ask: api.Ask{Kind: -1, Session: -1, Number: 64, Doc: sample.Item(sample.Null())}}, "\x06\x00\x00\x00\x00" + "\x01\x01\x80\x01" + "\x00\x00" + "\x02" + "\x07\x01\x03_id\x01"},
		{api.Act{Kind: api.ActAsk, Ask: api.Ask{Id: sample.Null(), Doc: sample.Doc(nil), Spec: sample.Replace(sample.Doc(nil))}}, "\x05\x00\x00\x00\x00" + "\x00\x00\x00" + "\x00\x00" + "\x07" + "\x01" + "\x07\x00" + "\x01\x07\x00"},
		{api.Act{Kind: api.ActCrash, Node: 1}, "\x08\x02\x00\x00\x00" + "\x00"},
		{api.Act{Kind: api.ActCrash, Keep: []api.Keep{{Name: "f", N: 3}, {Name: "", N: -2}}}, "\x08\x00\x00\x00\x00" + "\x02" + "\x01f\x06" + "\x00\x03"},
		{api.Act{Kind: api.ActOpen, Node: 1, N: 2, Cursor: 15}, "\x0b\x02\x04\x00\x1e" + "\x00\x00\x00"},
		{api.Act{Kind: api.ActOpen, Filter: api.Filter{Coll: "c", Path: []string{"a", "bc"}, Kinds: 12}}, "\x0b\x00\x00\x00\x00" + "\x01c" + "\x02\x01a\x02bc" + "\x18"},
		{api.Act{Kind: api.ActAfter, Node: 1, M: 1, Cursor: 2, Filter: api.Filter{Coll: "c", Kinds: -1}, Token: []byte("tok")}, "\x0d\x02\x00\x02\x04" + "\x01c\x00\x01" + "\x03tok"},
	} {
		if got := string(cluster.Put(nil, c.a)); got != c.want {
			t.Errorf("Put(%s) = %q, want %q", show(c.a), got, c.want)
		}
		if a, n, ok := reads(c.want); !ok || n != len(c.want) || !sample.AlikeActs(a, c.a) {
			t.Errorf("Read(%q) = %s, %d, %t", c.want, show(a), n, ok)
		}
	}
}

func TestWhatIsPutIsRead(t *testing.T) {
	for _, a := range good() {
		room := sample.RoomyAct(a)
		b := sample.RoomyBytes([]byte("ahead"))
		got := string(cluster.Put(b, room))
		if !sample.UntouchedAct(room, a) || !sample.UntouchedBytes(b, []byte("ahead")) {
			t.Fatalf("Put(%s) touched something", show(a))
		}
		code, ok := strings.CutPrefix(got, "ahead")
		if !ok || code == "" || string(cluster.Put(nil, a)) != code {
			t.Fatalf("Put(%s) = %q", show(a), got)
		}
		// What is behind it is left.
		for _, behind := range []string{"", "\x00", "more"} {
			if x, n, ok := reads(code + behind); !ok || n != len(code) || !sample.AlikeActs(x, a) {
				t.Fatalf("Read(%q) = %s, %d, %t, want %s", code+behind, show(x), n, ok, show(a))
			}
		}
		if l := cluster.Script([]byte(code + code)); len(l) != 2 || !sample.AlikeActs(l[0], a) || !sample.AlikeActs(l[1], a) {
			t.Fatalf("Script of %q twice is %s", code, show(l))
		}
	}
}

func TestWhatMayNotBeWritten(t *testing.T) {
	for _, a := range bad() {
		room := sample.RoomyAct(a)
		if got := string(cluster.Put([]byte("ahead"), room)); got != "ahead" {
			t.Errorf("Put(%s) = %q", show(a), got)
		}
		if !sample.UntouchedAct(room, a) {
			t.Errorf("Put touched %s", show(a))
		}
		if got := cluster.Put(nil, a); len(got) != 0 {
			t.Errorf("Put(%s) = %q", show(a), got)
		}
	}
}

// What Put answers is new memory, in each case.
func TestPutAnswersNewMemory(t *testing.T) {
	for _, a := range []api.Act{{}, fullOf(api.ActAsk), fullOf(api.ActCrash)} {
		b := sample.RoomyBytes([]byte("ahead"))
		got := cluster.Put(b, a)
		was := slices.Clone(got)
		clear(b[:cap(b)])
		if !slices.Equal(got, was) {
			t.Errorf("Put(%s) shares something", show(a))
		}
		b = []byte("ahead")
		got = cluster.Put(b, a)
		clear(got[:cap(got)])
		if string(b) != "ahead" {
			t.Errorf("Put(%s) shares something", show(a))
		}
	}
	// Steps that are read share nothing, either.
	code := cluster.Put(cluster.Put(nil, fullOf(api.ActAfter)), fullOf(api.ActAsk))
	l := cluster.Script(code)
	for _, a := range l {
		sample.SpoilAct(a)
	}
	clear(l[:cap(l)])
	l = cluster.Script(code)
	clear(code)
	if !sample.AlikeActs(l[0], fullOf(api.ActAfter)) || !sample.AlikeActs(l[1], fullOf(api.ActAsk)) {
		t.Errorf("read is %s", show(l))
	}
}

// isNone asks whether b begins with no step's code.
func isNone(t *testing.T, b string) {
	t.Helper()
	s := varint.From([]byte(b))
	if a := cluster.Read(s); !s.Bad() || !sample.AlikeActs(a, api.Act{}) {
		t.Errorf("Read(%q) = %s, want none", b, show(a))
	}
	if l := cluster.Script([]byte(b)); len(l) != 0 {
		t.Errorf("Script(%q) = %s, want none", b, show(l))
	}
}

func TestCodesThatAreNone(t *testing.T) {
	isNone(t, "")
	for kind := range 256 {
		if kind < 1 || kind > 14 {
			isNone(t, string([]byte{byte(kind), 0, 0, 0, 0, 0, 0, 0, 0, 0, 0, 0}))
		}
	}
	// No code is the beginning of another one.
	for kind := 1; kind <= 14; kind++ {
		code := string(cluster.Put(nil, fullOf(kind)))
		for n := range len(code) {
			isNone(t, code[:n])
		}
	}
	// Fields that the kind does not look at have no numbers.
	for kind := 1; kind <= 14; kind++ {
		for i, field := range letters[:4] {
			b := []byte(string(cluster.Put(nil, api.Act{Kind: kind})))
			b[1+i] = 2
			if strings.ContainsRune(theirs[kind], field) {
				if a, n, ok := reads(string(b)); !ok || n != len(b) || !sample.AlikeActs(a, with(api.Act{Kind: kind}, api.Act{Node: 1, N: 1, M: 1, Cursor: 1}, field)) {
					t.Errorf("Read(%q) = %s, %d, %t", b, show(a), n, ok)
				}
			} else {
				isNone(t, string(b))
			}
		}
	}
	ask, crash, open, after := "\x05\x00\x00\x00\x00", "\x08\x00\x00\x00\x00", "\x0b\x00\x00\x00\x00", "\x0d\x00\x00\x00\x00"
	for what, b := range map[string]string{
		"a number of too many bytes":  "\x01\x80\x00\x00\x00\x00",
		"a mark that is none":         ask + "\x00\x00\x00\x00\x00" + "\x08" + "\x01\x01\x01\x07\x00",
		"a mark that is too much":     ask + "\x00\x00\x00\x00\x00" + "\xff" + "\x01\x01\x01\x07\x00",
		"a mark without a value":      ask + "\x00\x00\x00\x00\x00" + "\x01",
		"a value of no kind":          ask + "\x00\x00\x00\x00\x00" + "\x01" + "\x00",
		"a document that is not":      ask + "\x00\x00\x00\x00\x00" + "\x02" + "\x07\x02\x01a\x01\x01a\x01",
		"an update that may not be":   ask + "\x00\x00\x00\x00\x00" + "\x04" + "\x00\x00",
		"an update of an id":          ask + "\x00\x00\x00\x00\x00" + "\x04" + "\x00\x01\x02\x01\x03_id",
		"a collection that is long":   ask + "\x00\x00\x00" + "\x21" + long(33) + "\x00\x00",
		"another that is long":        ask + "\x00\x00\x00" + "\x00\x21" + long(33) + "\x00",
		"too many to keep":            crash + "\x11" + strings.Repeat("\x00\x00", 17),
		"a file's name that is long":  crash + "\x01\x19" + long(25) + "\x00",
		"a filter's that is long":     open + "\x21" + long(33) + "\x00\x00",
		"too many steps":              open + "\x00\x09" + strings.Repeat("\x01a", 9) + "\x00",
		"a step that is long":         open + "\x00\x01\x21" + long(33) + "\x00",
		"a token that is long":        after + "\x00\x00\x00" + "\x41" + long(65),
		"a count of too many bytes":   crash + "\x80\x00",
		"a text of too many bytes":    open + "\x80\x00\x00\x00",
		"a token of too few bytes":    after + "\x00\x00\x00" + "\x02x",
		"a number of more than there": "\x01" + strings.Repeat("\xff", 9) + "\x02\x00\x00\x00",
	} {
		if _, _, ok := reads(b); ok {
			t.Errorf("%s is read", what)
		}
		isNone(t, b)
	}
}

func TestReadOfABadSource(t *testing.T) {
	s := varint.From(cluster.Put(nil, fullOf(api.ActTick)))
	s.Spoil()
	for _, s := range []*varint.Source{nil, s} {
		if a := cluster.Read(s); !sample.AlikeActs(a, api.Act{}) || !s.Bad() {
			t.Errorf("Read of a bad source: %s", show(a))
		}
	}
}

// scripted asks whether what is read of b is just what b has of codes.
func scripted(t *testing.T, b string) []api.Act {
	t.Helper()
	var code []byte
	l := cluster.Script([]byte(b))
	for _, a := range l {
		was := len(code)
		if code = cluster.Put(code, a); len(code) == was {
			t.Fatalf("of %q is read %s, which may not be written", b, show(a))
		}
	}
	rest, ok := strings.CutPrefix(b, string(code))
	if !ok {
		t.Fatalf("of %q is read %s, whose code is %q", b, show(l), code)
	}
	if _, _, more := reads(rest); more && len(l) < 10000 {
		t.Fatalf("of %q just %d steps are read", b, len(l))
	}
	return l
}

func TestAnyBytesAreAScript(t *testing.T) {
	sample.Behind("", "\x00\x01\x02\x05\x08\x0b\x0d\x0e\x0f\x80", 6, func(b string) { scripted(t, b) })
	for kind := 1; kind <= 14; kind++ {
		code := string(cluster.Put(nil, fullOf(kind)))
		sample.Changed(code, func(b string) { scripted(t, b) })
	}
	chance, some := sample.Chance(261), 0
	all := good()
	for range 20000 {
		b := ""
		for range chance.Below(4) {
			if code := cluster.Put(nil, all[chance.Below(len(all))]); len(code) < 200 {
				b += string(code)
			}
		}
		b += chance.Bytes(20)
		if chance.Below(2) == 0 {
			b = chance.Change(b + "x")
		}
		if len(scripted(t, b)) > 0 {
			some++
		}
	}
	if some < 2000 {
		t.Errorf("just %d of them had steps", some)
	}
}

func TestScript(t *testing.T) {
	tick, off := fullOf(api.ActTick), fullOf(api.ActCrash)
	code := cluster.Put(cluster.Put(nil, tick), off)
	for _, b := range []string{"", "\x00", "\x0f", "\x01", "\x01\x00\x00\x00", "no step"} {
		// What is behind the last step is nothing, whatever it is.
		more := append(slices.Clone(code), b...)
		if l := cluster.Script(more); len(l) != 2 || !sample.AlikeActs(l[0], tick) || !sample.AlikeActs(l[1], off) {
			t.Errorf("Script(%q) = %s", more, show(l))
		}
		if l := cluster.Script(append([]byte(b), code...)); b != "" && len(l) != 0 && b != "\x01\x00\x00\x00" && b != "\x01" {
			t.Errorf("Script(%q behind %q) = %s", code, b, show(l))
		}
	}
	if l := cluster.Script(nil); len(l) != 0 {
		t.Errorf("Script of nothing = %s", show(l))
	}
}

func TestScriptHasSoManySteps(t *testing.T) {
	one := string(cluster.Put(nil, at(api.ActTick, 0)))
	for _, n := range []int{9999, 10000, 10001, 12345} {
		l := cluster.Script([]byte(strings.Repeat(one, n)))
		if len(l) != min(n, 10000) {
			t.Errorf("of %d steps %d are read", n, len(l))
		}
		c := made(t, 3)
		if l := c.Run([]byte(strings.Repeat(one, n))); len(l) != min(n, 10000) {
			t.Errorf("of %d steps %d are shown", n, len(l))
		}
		if s := c.Status(0); s.Term != min(n, 10000)/10 {
			t.Errorf("behind %d ticks it stands %+v", n, s)
		}
	}
}

// Run shows what all steps show, one behind the other, also of those that are refused.
func TestRun(t *testing.T) {
	var steps []api.Act
	for range 10 {
		steps = append(steps, at(api.ActTick, 0))
	}
	steps = append(steps, asked(0, sample.AskCreate("c"), 1, 1), at(api.ActTick, 1), at(api.ActBoot, 0), opened(0, 0, ofC, 1), polled(0, 0, 5), polled(0, 1, 5), at(api.ActCrash, 0), polled(0, 0, 5), at(api.ActBoot, 0))
	c, d := made(t, 1), made(t, 1)
	var b []byte
	var want []api.Told
	for _, a := range steps {
		b = cluster.Put(b, a)
		want = append(want, c.Do(a))
	}
	got := d.Run(append(b, "behind"...))
	if !slices.EqualFunc(got, want, sample.AlikeTold) {
		t.Errorf("Run shows %s, want %s", show(got), show(want))
	}
	alike(t, "Run", d, c)
	codes := ""
	for _, told := range got[10:] {
		codes += fmt.Sprint(told.Code, len(told.Answers), len(told.Events), " ")
	}
	if codes != "0 1 0 4 0 0 5 0 0 0 0 0 0 0 1 4 0 0 0 0 0 90 0 0 0 0 0 " {
		t.Errorf("shown is %q", codes)
	}
	if l := d.Run([]byte("nothing")); len(l) != 0 {
		t.Errorf("Run of nothing shows %s", show(l))
	}
	if l := d.Run(nil); len(l) != 0 {
		t.Errorf("Run of nothing shows %s", show(l))
	}
}
