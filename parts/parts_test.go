package parts_test

import (
	"slices"
	"strings"
	"testing"

	"tributary/api"
	"tributary/parts"
	"tributary/value"
	"tributary/varint"
)

func TestPut(t *testing.T) {
	for n, want := range map[int]string{0: "\x00", 127: "\x7f", 128: "\x80\x01"} {
		if got := parts.PutCounts([]byte("b"), n); string(got) != "b"+want {
			t.Errorf("PutCounts(b, %d) = %q", n, got)
		}
		if got := parts.PutCounts([]byte("b"), n, 5, n); string(got) != "b"+want+"\x05"+want {
			t.Errorf("PutCounts(b, %d, 5, %d) = %q", n, n, got)
		}
	}
	if got := parts.PutCounts([]byte("b")); string(got) != "b" {
		t.Errorf("PutCounts(b) = %q", got)
	}
	for p, want := range map[string]string{"a": "\x01\x01a", "a.bc.0": "\x03\x01a\x02bc\x010"} {
		if got := parts.PutPath([]byte("b"), strings.Split(p, ".")); string(got) != "b"+want {
			t.Errorf("PutPath(b, %s) = %q", p, got)
		}
	}
}

func TestSumBytes(t *testing.T) {
	for sum, want := range map[int]string{0: "\x00\x00\x00\x00", 0x04030201: "\x01\x02\x03\x04", 0xFFFEFDFC: "\xfc\xfd\xfe\xff"} {
		if got := parts.SumBytes(sum); string(got[:]) != want {
			t.Errorf("SumBytes(%#x) = %q", sum, got)
		}
	}
}

func TestReadPath(t *testing.T) {
	for _, p := range [][]string{nil, {"a"}, {"a", "", "$", "a.b"}, {"1", "2", "3", "4", "5", "6", "7", strings.Repeat("n", 32)}} {
		s := varint.From(append(parts.PutPath(nil, p), 9))
		if got := parts.ReadPath(s); !slices.Equal(got, p) || s.Left() != 1 {
			t.Errorf("%q is read as %q", p, got)
		}
	}
	for _, p := range [][]string{slices.Repeat([]string{"a"}, 9), {"a", strings.Repeat("n", 33)}} {
		s := varint.From(parts.PutPath(nil, p))
		if parts.ReadPath(s); !s.Bad() {
			t.Errorf("%q is read", p)
		}
	}
}

func TestNone(t *testing.T) {
	for _, v := range []api.Value{{}, {Items: []api.Value{}, Names: []string{}}} {
		if !parts.None(v) {
			t.Errorf("%v is {}", v)
		}
	}
	for _, v := range []api.Value{{Kind: api.KindNull}, {Kind: -1}, {Int: 1}, {Text: "a"}, {Items: []api.Value{{}}}, {Names: []string{""}}} {
		if parts.None(v) {
			t.Errorf("%v is not {}", v)
		}
	}
}

func TestAlike(t *testing.T) {
	null := api.Value{Kind: api.KindNull}
	l := []api.Value{
		{}, null, {Kind: 8}, {Kind: -1}, {Int: 1}, {Int: -1}, {Kind: 8, Int: 1}, {Text: "a"}, {Text: "ab"}, {Kind: api.KindText, Text: "a"}, {Kind: api.KindBytes, Text: "a"},
		{Items: []api.Value{{}}}, {Items: []api.Value{{}, {}}}, {Items: []api.Value{{Int: 1}}}, {Items: []api.Value{{Items: []api.Value{{}}}}}, {Names: []string{""}}, {Names: []string{"a"}}, {Names: []string{"a", "b"}}, {Names: []string{"b", "a"}},
		{Kind: api.KindDoc, Names: []string{"a"}, Items: []api.Value{null}}, {Kind: api.KindDoc, Names: []string{"b"}, Items: []api.Value{null}}, {Kind: api.KindDoc, Names: []string{"a"}, Items: []api.Value{{}}}, {Kind: api.KindArray, Items: []api.Value{null}},
	}
	for i, a := range l {
		for k, b := range l {
			if got := parts.Alike(a, value.Clone(b)); got != (i == k) {
				t.Errorf("Alike(%v, %v) = %v", a, b, got)
			}
		}
	}
	if !parts.Alike(api.Value{Items: []api.Value{}, Names: []string{}}, api.Value{}) {
		t.Error("empty lists are not as none")
	}
}

func TestCopyEach(t *testing.T) {
	longer := func(s string) string { return s + "x" }
	room := []string{"a", "b", "room"}
	got := parts.CopyEach(room[:2], longer)
	if !slices.Equal(got, []string{"ax", "bx"}) {
		t.Errorf("CopyEach = %q", got)
	}
	clear(got[:cap(got)])
	if !slices.Equal(room, []string{"a", "b", "room"}) {
		t.Errorf("what was copied is %q", room)
	}
	for _, l := range [][]int{nil, {}, make([]int, 0, 5)} {
		if got := parts.CopyEach(l, func(x int) int { return x }); len(got) != 0 || cap(got) != 0 {
			t.Errorf("of nothing CopyEach makes %v", got)
		}
	}
	nested := [][]byte{{1, 2}, nil, {3}}
	other := parts.CopyEach(nested, slices.Clone)
	if other[0][1], other[2][0] = 9, 9; !slices.EqualFunc(nested, [][]byte{{1, 2}, nil, {3}}, slices.Equal) || len(other) != 3 {
		t.Errorf("what was copied is %v", nested)
	}
}
