package delta_test

import (
	"slices"
	"testing"

	"tributary/api"
	"tributary/codec"
	"tributary/delta"
	"tributary/sample"
	"tributary/varint"
)

// P6.3: Put and Read; P6.4: what was put is read.

// coded are lists and their codes, byte by byte.
func coded() []struct {
	l []api.Delta
	b []byte
} {
	return []struct {
		l []api.Delta
		b []byte
	}{
		{nil, []byte{0}},
		{[]api.Delta{drop("a")}, []byte{1, 2, 1, 1, 'a'}},
		{[]api.Delta{drop("a.bc.0")}, []byte{1, 2, 3, 1, 'a', 2, 'b', 'c', 1, '0'}},
		{[]api.Delta{cut("a", 0)}, []byte{1, 3, 1, 1, 'a', 0}},
		{[]api.Delta{cut("a", 127)}, []byte{1, 3, 1, 1, 'a', 127}},
		{[]api.Delta{cut("a", 128)}, []byte{1, 3, 1, 1, 'a', 128, 1}},
		{[]api.Delta{cut("a", 999)}, []byte{1, 3, 1, 1, 'a', 231, 7}},
		{[]api.Delta{set("a", null)}, []byte{1, 1, 1, 1, 'a', 1}},
		{[]api.Delta{set("a.b", number(-1))}, []byte{1, 1, 2, 1, 'a', 1, 'b', 3, 1}},
		{[]api.Delta{set("a", doc(steps("x"), array(text("t"))))}, []byte{1, 1, 1, 1, 'a', 7, 1, 1, 'x', 6, 1, 4, 1, 't'}},
		{[]api.Delta{set("a", number(5)), drop("a"), cut("\xff", 3)}, []byte{3, 1, 1, 1, 'a', 3, 10, 2, 1, 1, 'a', 3, 1, 1, 255, 3}},
		{[]api.Delta{drop("1.2.3.4.5.6.7.8")}, []byte{1, 2, 8, 1, '1', 1, '2', 1, '3', 1, '4', 1, '5', 1, '6', 1, '7', 1, '8'}},
	}
}

func TestPut(t *testing.T) {
	for _, c := range coded() {
		if got := delta.Put(nil, c.l); !slices.Equal(got, c.b) {
			t.Errorf("Put(nil, %v) = %v, want %v", c.l, got, c.b)
		}
		room := []byte{9, 8, 7, 6, 5}
		got := delta.Put(room[:2], c.l)
		if !slices.Equal(got, append([]byte{9, 8}, c.b...)) || !slices.Equal(room, []byte{9, 8, 7, 6, 5}) {
			t.Errorf("Put([9 8], %v) = %v, and behind it %v", c.l, got, room)
		}
		clear(got[:cap(got)])
		if !slices.Equal(room, []byte{9, 8, 7, 6, 5}) {
			t.Error("what Put answers is what it was given")
		}
	}
	for _, d := range wrong() {
		for _, l := range [][]api.Delta{{d}, {drop("a"), d}, append(many(64), d)} {
			room := []byte{9, 8, 7}
			got := delta.Put(room[:2], l)
			if !slices.Equal(got, []byte{9, 8}) || len(delta.Put(nil, l)) != 0 {
				t.Errorf("Put of %v = %v", l, got)
			}
			clear(got[:cap(got)])
			if !slices.Equal(room, []byte{9, 8, 7}) {
				t.Error("what Put answers is what it was given")
			}
		}
	}
	if b := delta.Put(nil, many(65)); len(b) != 0 {
		t.Error("65 changes are put")
	}
}

// read tells what Read answers of b, how many bytes it left, and whether the source is good.
func read(b []byte) ([]api.Delta, int, bool) {
	s := varint.From(b)
	l := delta.Read(s)
	return l, s.Left(), !s.Bad()
}

func TestRead(t *testing.T) {
	for _, c := range coded() {
		for _, tail := range [][]byte{nil, {0}, {1, 2, 3}} {
			l, left, ok := read(slices.Concat(c.b, tail))
			if !ok || left != len(tail) || !sameList(l, c.l) {
				t.Errorf("Read of %v and %v = %v, %d, %v", c.b, tail, l, left, ok)
			}
		}
		for n := range c.b {
			if l, left, ok := read(c.b[:n]); ok || left != 0 || len(l) != 0 {
				t.Errorf("Read of %v = %v, %d, %v", c.b[:n], l, left, ok)
			}
		}
		handed := slices.Clone(c.b)
		l, _, _ := read(handed)
		if !slices.Equal(handed, c.b) {
			t.Error("Read changes what it is given")
		}
		clear(handed)
		if !sameList(l, c.l) {
			t.Error("Read keeps what it is given")
		}
	}
}

func TestReadOfWhatIsNoCode(t *testing.T) {
	value := func(v api.Value) []byte { b, _ := codec.Encode(v); return b }
	long := slices.Concat([]byte{1, 1, 1, 1, 'a', 4}, varint.Text(letters(4094)))
	deepOne := slices.Concat([]byte{1, 1, 1, 1, 'a'}, slices.Repeat([]byte{6, 1}, 8), []byte{1})
	sixtyFive := append([]byte{65}, slices.Repeat([]byte{2, 1, 1, 'a'}, 65)...)
	for _, b := range [][]byte{
		nil, {1}, {1, 2}, {1, 2, 1}, {1, 2, 1, 1}, {2, 2, 1, 1, 'a'}, {128, 0}, {129, 0, 2, 1, 1, 'a'}, {255, 255, 255, 255, 255, 255, 255, 255, 255, 1}, sixtyFive, {64, 2, 1, 1, 'a'},
		{1, 0, 1, 1, 'a'}, {1, 4, 1, 1, 'a'}, {1, 255, 1, 1, 'a'}, {1, 130, 1, 1, 'a', 0}, {2, 2, 1, 1, 'a', 0, 1, 1, 'a'}, {2, 4, 1, 1, 'a', 2, 1, 1, 'a'},
		{1, 2, 0}, {1, 2, 0, 0}, {1, 1, 0, 1}, {1, 3, 0, 1}, {1, 2, 9, 1, '1', 1, '2', 1, '3', 1, '4', 1, '5', 1, '6', 1, '7', 1, '8', 1, '9'}, {1, 2, 129, 0, 1, 'a'},
		{1, 2, 1, 0}, {1, 2, 1, 1, '.'}, {1, 2, 1, 1, '$'}, {1, 2, 1, 2, 'a', '.'}, {1, 2, 2, 1, 'a', 0}, {1, 2, 1, 129, 0, 'a'},
		slices.Concat([]byte{1, 2, 1}, varint.Text(letters(33))), slices.Concat([]byte{1, 1, 1, 1, 'a'}, []byte{0}), {1, 1, 1, 1, 'a', 8}, {1, 1, 1, 1, 'a', 2, 2}, {1, 1, 1, 1, 'a', 7, 2, 1, 'x', 1, 1, 'x', 1},
		long, deepOne, {1, 3, 1, 1, 'a', 232, 7}, {1, 3, 1, 1, 'a', 255, 127}, {1, 3, 1, 1, 'a', 128, 0},
		slices.Concat([]byte{2, 1, 1, 1, 'a'}, value(null), []byte{1, 1, 1, 'b'}),
	} {
		l, left, ok := read(b)
		if ok || left != 0 || len(l) != 0 {
			t.Errorf("Read of %v = %v, %d, %v", b, l, left, ok)
		}
	}
	if l := delta.Read(nil); len(l) != 0 {
		t.Error("of no source is read", l)
	}
	s := varint.From([]byte{0, 0})
	s.Spoil()
	if l := delta.Read(s); len(l) != 0 || !s.Bad() {
		t.Error("of a bad source is read", l)
	}
}

func TestWhatWasPutIsRead(t *testing.T) {
	lists := [][]api.Delta{nil, good(), many(64), slices.Repeat([]api.Delta{set("1.2.3.4.5.6.7.8", text(letters(4093)))}, 64)}
	for _, d := range good() {
		lists = append(lists, []api.Delta{d}, []api.Delta{d, drop("a"), d})
	}
	var all []byte
	for _, l := range lists {
		b := delta.Put(nil, l)
		got, left, ok := read(b)
		if !ok || left != 0 || !sameList(got, l) {
			t.Fatalf("%v is read as %v", l, got)
		}
		all = delta.Put(all, l)
	}
	s := varint.From(all)
	for _, l := range lists {
		if got := delta.Read(s); !sameList(got, l) {
			t.Fatalf("%v is read as %v behind others", l, got)
		}
	}
	if s.Done() != api.OK {
		t.Error("bytes are left")
	}
}

func TestWhatIsReadHasThatCode(t *testing.T) {
	found := 0
	ask := func(b string) {
		l, left, ok := read([]byte(b))
		if ok {
			found++
			if back := delta.Put(nil, l); string(back) != b[:len(b)-left] {
				t.Fatalf("%q is read as %v, whose code is %q", b, l, back)
			}
		} else if len(l) != 0 || left != 0 {
			t.Fatalf("%q is read as %v, %d", b, l, left)
		}
	}
	letters := "\x00\x01\x02\x03\x04a.\x80\xff"
	sample.Behind("", letters, 5, ask)
	for _, head := range []string{"\x01\x01\x01\x01a", "\x01\x03\x01\x01a", "\x02\x02\x01\x01a", "\x01\x02\x02\x01a"} {
		sample.Behind(head, letters, 4, ask)
	}
	if found < 1000 {
		t.Error("just so many codes:", found)
	}
}
