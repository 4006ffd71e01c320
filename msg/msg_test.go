package msg_test

import (
	"fmt"
	"math"
	"slices"
	"strings"
	"testing"

	"tributary/api"
	"tributary/entry"
	"tributary/msg"
	"tributary/sample"
)

// The makers of values, changes, entries and messages, by short names.
var (
	null, number, text, array = sample.Null(), sample.Number, sample.Text, sample.Array
	doc, item, deep           = sample.Doc, sample.Item, sample.Deep
	set, drop                 = sample.Set, sample.Drop
	insert, update, remove    = sample.Insert, sample.Update, sample.Delete
	create, rename            = sample.Create, sample.RenameAll
	noop, by                  = sample.Noop(), sample.By
	bare, alike               = sample.Msg, sample.AlikeMsgs
)

// none is what is answered where there is no message.
var none = api.Msg{}

func letters(n int) string { return strings.Repeat("x", n) }

// show is how a failed test tells of what may be long.
func show(x any) string { return fmt.Sprintf("%.300s", fmt.Sprint(x)) }

// theirs are the fields that messages of a kind have, by letters: Index, Term of the log, Commit, Round, Ok, Entries, Snap.
var theirs = map[int]string{1: "IT", 2: "O", 3: "ITCRE", 4: "IRO", 5: "ITS"}

// mostTerm is how great a number is at most.
const mostTerm = 1 << 40

// with answers m with a number in the field of that letter.
func with(m api.Msg, field rune, n int) api.Msg {
	switch field {
	case 'I':
		m.Index = n
	case 'T':
		m.LogTerm = n
	case 'C':
		m.Commit = n
	case 'R':
		m.Round = n
	}
	return m
}

// log answers entries of several kinds, as many as a message has at most.
func log() []api.Entry {
	return []api.Entry{
		by(noop, 1, 0, 0), by(create("c"), 1, 1, 1), by(insert("c", item(number(1), array(null))), 1, 255, 1<<40), by(update("c", number(1), set("a.0", text("t")), drop("b")), 2, 1, 2),
		by(remove("c", number(1)), 2, 1, 3), by(rename("c", "d"), 3, 0, 0), by(noop, mostTerm, 0, 0), by(insert("d", doc([]string{"_id", "t"}, null, text(letters(4084)))), 0, 0, 0),
	}
}

// kinds are a message of each kind, with something in each field that it has.
func kinds() []api.Msg {
	return []api.Msg{
		{Kind: 1, From: 0, To: 1, Term: 5, Index: 7, LogTerm: 4},
		{Kind: 2, From: 1, To: 0, Term: 5, Ok: true},
		{Kind: 3, From: 0, To: 2, Term: 5, Index: 7, LogTerm: 4, Commit: 6, Round: 9, Entries: log()[:3]},
		{Kind: 4, From: 2, To: 0, Term: 5, Index: 8, Round: 9, Ok: true},
		{Kind: 5, From: 0, To: 6, Term: 5, Index: 7, LogTerm: 4, Snap: []byte("snap")},
	}
}

// good are messages that may be.
func good() []api.Msg {
	l := kinds()
	for _, m := range kinds() {
		for from := range 7 {
			for to := range 7 {
				if from != to {
					m.From, m.To = from, to
					l = append(l, m)
				}
			}
		}
		for _, n := range []int{1, 2, 127, 128, 1 << 14, 1<<32 + 1, mostTerm - 1, mostTerm} {
			m.Term = n
			l = append(l, m)
		}
		for _, field := range theirs[m.Kind] {
			for _, n := range []int{0, 1, 127, 128, 1<<32 + 1, mostTerm - 1, mostTerm} {
				l = append(l, with(m, field, n))
			}
		}
	}
	// Fields that are theirs may be 0, and no number is held against another one.
	l = append(l, bare(1, 0, 1, 1), bare(2, 0, 1, 1), bare(3, 0, 1, 1), bare(4, 0, 1, 1), api.Msg{Kind: 3, To: 1, Term: 1, Index: 1, LogTerm: mostTerm, Commit: mostTerm, Round: 3})
	for n := range 9 {
		l = append(l, api.Msg{Kind: 3, To: 1, Term: 1, Entries: log()[:n]}, api.Msg{Kind: 3, To: 1, Term: 1, Entries: log()[8-n:]}, api.Msg{Kind: 3, To: 1, Term: 1, Entries: slices.Repeat([]api.Entry{noop}, n)})
	}
	for _, n := range []int{1, 2, 127, 128, 4096, 1<<16 - 1, 1 << 16} {
		l = append(l, api.Msg{Kind: 5, To: 1, Term: 1, Snap: []byte(letters(n))}, api.Msg{Kind: 5, To: 1, Term: 1, Snap: make([]byte, n)})
	}
	return append(l, api.Msg{Kind: 1, To: 1, Term: 1, Entries: []api.Entry{}, Snap: []byte{}}, api.Msg{Kind: 3, To: 1, Term: 1, Entries: []api.Entry{}, Snap: []byte{}})
}

// wrongEntries are some entries that may not be.
func wrongEntries() []api.Entry {
	return []api.Entry{{}, {Kind: 8}, by(noop, 1, 1, 0), by(noop, -1, 0, 0), by(noop, mostTerm+1, 0, 0), create(""), create("$"), insert("c", null), update("c", null, drop("_id")), remove("c", deep(8)), by(create("c"), 1, 256, 0), insert("c", item(sample.Deep(30000)))}
}

// wrong are messages that may not be: each has one field alone that is to blame.
func wrong() []api.Msg {
	l := []api.Msg{none, bare(0, 0, 1, 1), bare(5, 0, 1, 1), {Kind: 5, To: 1, Term: 1, Snap: []byte{}}}
	for _, m := range kinds() {
		for _, kind := range []int{0, 6, 7, -1, 255, 256, m.Kind + 256, m.Kind - 256, m.Kind + 1<<32, -m.Kind, math.MaxInt, math.MinInt} {
			x := m
			x.Kind = kind
			l = append(l, x)
		}
		for _, n := range []int{-1, 7, 8, 255, 256, 257, 1 << 32, 1<<32 + 3, math.MaxInt, math.MinInt} {
			x, y := m, m
			x.From, y.To = n, n
			l = append(l, x, y)
		}
		for n := range 7 {
			x := m
			x.From, x.To = n, n
			l = append(l, x)
		}
		for _, n := range []int{0, -1, mostTerm + 1, mostTerm * 2, math.MaxInt, math.MinInt} {
			x := m
			x.Term = n
			l = append(l, x)
		}
		for _, field := range theirs[m.Kind] {
			for _, n := range []int{-1, mostTerm + 1, mostTerm * 2, math.MaxInt, math.MinInt} {
				if strings.ContainsRune("ITCR", field) {
					l = append(l, with(m, field, n))
				}
			}
		}
	}
	return slices.Concat(l, wrongLists(), crowded())
}

// wrongLists are messages whose lists are too long, or have what may not be.
func wrongLists() []api.Msg {
	var l []api.Msg
	for _, n := range []int{9, 10, 1000} {
		l = append(l, api.Msg{Kind: 3, To: 1, Term: 1, Entries: slices.Repeat([]api.Entry{noop}, n)})
	}
	for _, e := range wrongEntries() {
		for _, n := range []int{0, 1, 7} {
			l = append(l, api.Msg{Kind: 3, To: 1, Term: 1, Entries: slices.Insert(log()[:7], n, e)})
		}
		l = append(l, api.Msg{Kind: 3, To: 1, Term: 1, Entries: []api.Entry{e}})
	}
	for _, n := range []int{1<<16 + 1, 1 << 17, 1 << 20} {
		l = append(l, api.Msg{Kind: 5, To: 1, Term: 1, Snap: make([]byte, n)})
	}
	return l
}

// crowded are messages that have a field which their kind does not have, besides those that it has.
func crowded() []api.Msg {
	var l []api.Msg
	for _, m := range kinds() {
		for _, field := range "ITCR" {
			for _, n := range []int{1, 5, -1, mostTerm, mostTerm + 1, 1 << 32, math.MaxInt, math.MinInt} {
				if !strings.ContainsRune(theirs[m.Kind], field) {
					l = append(l, with(m, field, n))
				}
			}
		}
		x := m
		if x.Ok = true; !strings.Contains(theirs[m.Kind], "O") {
			l = append(l, x)
		}
		for _, some := range [][]api.Entry{{noop}, {{}}, log()} {
			x := m
			if x.Entries = some; !strings.Contains(theirs[m.Kind], "E") {
				l = append(l, x)
			}
		}
		for _, some := range []string{"\x00", "a", letters(1 << 16), letters(1<<16 + 1)} {
			x := m
			if x.Snap = []byte(some); !strings.Contains(theirs[m.Kind], "S") {
				l = append(l, x)
			}
		}
	}
	return l
}

// P22.1: May.

func TestMay(t *testing.T) {
	for _, m := range good() {
		if !msg.May(m) {
			t.Errorf("%s may not be", show(m))
		}
	}
	for _, m := range wrong() {
		if msg.May(m) {
			t.Errorf("%s may be", show(m))
		}
	}
	for _, e := range wrongEntries() {
		if entry.May(e) {
			t.Errorf("%s may be", show(e))
		}
	}
	if len(good()) < 300 || len(wrong()) < 250 || len(crowded()) < 90 {
		t.Error("just so many:", len(good()), len(wrong()), len(crowded()))
	}
}

func TestMayOfEachField(t *testing.T) {
	// Of all kinds, also such as are none, and each field alone.
	for kind := -1; kind < 8; kind++ {
		m := bare(kind, 3, 4, 9)
		if kind == api.MsgSnap {
			m.Snap = []byte("s")
		}
		_, known := theirs[kind]
		if msg.May(m) != known {
			t.Errorf("of the kind %d it may be: %v", kind, !known)
		}
		for _, field := range "ITCR" {
			if got, want := msg.May(with(m, field, 1)), strings.ContainsRune(theirs[kind], field); got != want {
				t.Errorf("of the kind %d with %c it may be: %v", kind, field, got)
			}
		}
		x, y, z := m, m, m
		x.Ok, y.Entries, z.Snap = true, []api.Entry{noop}, []byte("s")
		for field, x := range map[string]api.Msg{"O": x, "E": y, "S": z} {
			if got, want := msg.May(x), strings.Contains(theirs[kind], field); got != want {
				t.Errorf("of the kind %d with %s it may be: %v", kind, field, got)
			}
		}
	}
}

// P22.2: Same and Clone.

func TestSame(t *testing.T) {
	l := slices.Concat(good(), []api.Msg{
		{Kind: 2, From: 1, To: 0, Term: 5}, {Kind: 4, From: 2, To: 0, Term: 5, Index: 8, Round: 9}, {Kind: 3, From: 0, To: 2, Term: 5, Index: 7, LogTerm: 4, Commit: 6, Round: 9, Entries: []api.Entry{noop, log()[1], log()[2]}},
		{Kind: 3, From: 0, To: 2, Term: 5, Index: 7, LogTerm: 4, Commit: 6, Round: 9, Entries: []api.Entry{log()[1], log()[0], log()[2]}}, {Kind: 5, From: 0, To: 6, Term: 5, Index: 7, LogTerm: 4, Snap: []byte("snaq")}, {Kind: 5, From: 0, To: 6, Term: 5, Index: 7, LogTerm: 4, Snap: []byte("sna")},
	})
	l = slices.DeleteFunc(l, func(m api.Msg) bool { return len(m.Snap) > 200 })
	for _, a := range l {
		for _, b := range l {
			if want := alike(a, b); msg.Same(a, sample.RoomyMsg(b)) != want {
				t.Errorf("Same(%s, %s) = %v", show(a), show(b), !want)
			}
		}
	}
	whole := api.Msg{Kind: 5, To: 1, Term: 1, Snap: make([]byte, 1<<16)}
	other := msg.Clone(whole)
	if !msg.Same(whole, other) {
		t.Error("a clone is not the same")
	}
	if other.Snap[1<<16-1] = 1; msg.Same(whole, other) {
		t.Error("what differs in the last byte is the same")
	}
}

func TestSameOfWhatMayNotBe(t *testing.T) {
	for _, a := range wrong() {
		for _, b := range append(kinds(), a, none) {
			if msg.Same(a, b) || msg.Same(b, a) {
				t.Errorf("%s, which may not be, is the same as %s", show(a), show(b))
			}
		}
	}
}

func TestClone(t *testing.T) {
	for _, was := range slices.Concat(good(), wrong(), []api.Msg{{Kind: 9, Ok: true, Entries: []api.Entry{{}, create("c")}, Snap: []byte("abc")}}) {
		if got := msg.Clone(was); !alike(got, was) {
			t.Errorf("Clone(%s) = %s", show(was), show(got))
		}
		m := sample.RoomyMsg(was)
		got := msg.Clone(m)
		sample.SpoilMsg(got)
		if !sample.UntouchedMsg(m, was) {
			t.Errorf("a clone of %s is the same memory", show(was))
		}
		got = msg.Clone(m)
		sample.SpoilMsg(m)
		if !alike(got, was) {
			t.Errorf("a clone of %s changes with it", show(was))
		}
	}
}

func TestNoTwoListsOfACloneAreOne(t *testing.T) {
	shared := item(array(null), array(null))
	l := []api.Entry{insert("c", shared), insert("c", shared), remove("c", shared)}
	got := msg.Clone(api.Msg{Kind: 3, To: 1, Term: 1, Entries: l})
	sample.SpoilEntry(got.Entries[0])
	if !sample.AlikeLogs(got.Entries[1:], l[1:]) || !sample.Alike(shared, item(array(null), array(null))) {
		t.Error("two lists are one")
	}
}

// What is handed in is not changed.

func TestNothingIsChanged(t *testing.T) {
	for _, was := range append(kinds(), api.Msg{Kind: 3, To: 1, Term: 1, Entries: append(log()[:2], api.Entry{})}, api.Msg{Kind: 9, Entries: log(), Snap: []byte("abc")}) {
		m := sample.RoomyMsg(was)
		msg.May(m)
		msg.Same(m, was)
		msg.Same(was, m)
		msg.Encode(m)
		if !sample.UntouchedMsg(m, was) {
			t.Errorf("what was handed in is changed: %s", show(was))
		}
	}
}
