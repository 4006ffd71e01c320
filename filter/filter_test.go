package filter_test

import (
	"fmt"
	"math"
	"slices"
	"strings"
	"testing"

	"tributary/api"
	"tributary/entry"
	"tributary/filter"
	"tributary/sample"
)

// The makers of values, changes and entries, by short names.
var (
	null, number, text, array = sample.Null(), sample.Number, sample.Text, sample.Array
	doc, one, item, deep      = sample.Doc, sample.One, sample.Item, sample.Deep
	set, drop, cut            = sample.Set, sample.Drop, sample.Cut
	insert, update, remove    = sample.Insert, sample.Update, sample.Delete
	create, dropAll, rename   = sample.Create, sample.DropAll, sample.RenameAll
	noop, by                  = sample.Noop(), sample.By
)

func letters(n int) string { return strings.Repeat("x", n) }

// show is how a failed test tells of what may be long.
func show(x any) string { return fmt.Sprintf("%.300s", fmt.Sprint(x)) }

// steps answers the path whose steps stand between the points of p; none, if that is empty.
func steps(p string) []string {
	if p == "" {
		return nil
	}
	return strings.Split(p, ".")
}

// everyKind is the sum of all bits that a filter may have: 4, 8, 16, 32, 64 and 128.
const everyKind = 252

// good are filters that may be.
func good() []api.Filter {
	l := []api.Filter{{}, {Path: []string{}}, {Coll: "c", Path: steps("a.b"), Kinds: everyKind}, {Coll: letters(32), Path: slices.Repeat([]string{letters(32)}, 8), Kinds: 128}}
	for _, s := range []string{"c", "_", ".", "a.b", "_id", " ", "\x01", "\xff", letters(32), strings.Repeat("\xff", 32)} {
		l = append(l, api.Filter{Coll: s}, api.Filter{Coll: s, Path: steps("a"), Kinds: 4})
	}
	for _, p := range [][]string{{"a"}, {"_id"}, {"_id", "a"}, {"0", "999", "1000"}, {"a$", " ", "\x00", "\xff"}, {letters(32)}, slices.Repeat([]string{"a"}, 8)} {
		l = append(l, api.Filter{Path: p}, api.Filter{Coll: "c", Path: p, Kinds: everyKind})
	}
	for kind := api.EntryInsert; kind <= api.EntryRename; kind++ {
		l = append(l, api.Filter{Kinds: 1 << kind}, api.Filter{Coll: "c", Path: steps("a"), Kinds: 1 << kind})
	}
	return l
}

// wrong are filters that may not be: each has one field alone that is to blame.
func wrong() []api.Filter {
	var l []api.Filter
	for _, s := range []string{"$", "$c", "c$", "a$b", "\x00", "c\x00", "\x00c", letters(33), letters(31) + "$", letters(31) + "\x00", strings.Repeat("\u00e9", 17), letters(100000)} {
		l = append(l, api.Filter{Coll: s}, api.Filter{Coll: s, Path: steps("a.b"), Kinds: everyKind})
	}
	for _, p := range [][]string{{""}, {"a", ""}, {"", "a"}, {"a.b"}, {"."}, {"$"}, {"$a"}, {"a", "$b", "c"}, {letters(33)}, {"a", letters(33)}, slices.Repeat([]string{"a"}, 9), slices.Repeat([]string{"a"}, 10000)} {
		l = append(l, api.Filter{Path: p}, api.Filter{Coll: "c", Path: p, Kinds: everyKind})
	}
	for _, k := range []int{1, 2, 3, 5, 6, 253, 254, 255, 256, 257, 260, 512, 511, everyKind + 256, everyKind + 1<<32, 4 + 1<<62, -1, -2, -4, -252, -256, 1 << 32, 1 << 62, math.MaxInt, math.MinInt, math.MinInt + 4, math.MaxInt - 3} {
		l = append(l, api.Filter{Kinds: k}, api.Filter{Coll: "c", Path: steps("a.b"), Kinds: k})
	}
	return l
}

// wrongEntries are entries that may not be; but for that, most would match filters, and some end streams.
func wrongEntries() []api.Entry {
	l := []api.Entry{
		{}, {Kind: 8}, {Kind: 8, Coll: "c"}, {Kind: -1, Coll: "c"}, {Kind: 0, Coll: "c"}, {Kind: api.EntryDrop + 64, Coll: "c"}, {Kind: api.EntryDrop + 1<<32, Coll: "c"}, {Kind: math.MaxInt, Coll: "c"}, {Kind: math.MinInt, Coll: "c"},
		{Kind: api.EntryNoop, Coll: "c"}, by(noop, 1, 1, 1), create(""), create("c$"), dropAll(""), dropAll("$"), dropAll(letters(33)), rename("c", "c"), rename("c", ""), rename("", "c"), rename("c", "$"), rename("$", "c"),
		{Kind: api.EntryDrop, Coll: "c", To: "d"}, {Kind: api.EntryDrop, Coll: "d", To: "c"}, {Kind: api.EntryCreate, Coll: "d", To: "c"}, {Kind: api.EntryDrop, Coll: "c", Id: null}, {Kind: api.EntryRename, Coll: "c", To: "d", Doc: doc(nil)}, {Kind: api.EntryRename, Coll: "c", To: "d", Deltas: []api.Delta{drop("a")}},
		insert("c", one("a", null)), insert("c", null), insert("c", item(deep(7), null)), insert("c", item(null, deep(7))), insert("c", doc([]string{"_id", "a", "a"}, null, null, null)), {Kind: api.EntryInsert, Coll: "c", Id: number(1), Doc: item(number(2), null)},
		update("c", api.Value{}, set("a", null)), update("c", null, set("a", null), drop("a")), update("c", null, set("a", null), drop("a.b")), update("c", null, set("a", null), drop("_id")), update("c", null, set("a", null), api.Delta{}), update("c", null, set("a", deep(8))), update("c", null, set("a", null), cut("b", 1000)),
		remove("c", api.Value{}), remove("c", deep(8)), remove("", null),
	}
	for _, e := range []api.Entry{insert("c", item(null, null)), update("c", null, set("a", null)), remove("c", null), create("c"), dropAll("c"), rename("c", "d"), rename("d", "c")} {
		l = append(l, by(e, -1, 0, 0), by(e, 1<<40+1, 0, 0), by(e, 1, 256, 0), by(e, 1, -1, 0), by(e, 1, 1, 1<<40+1), by(e, 1, 1, -1))
	}
	return l
}

// P19.1: May.

func TestMay(t *testing.T) {
	for _, f := range good() {
		if !filter.May(f) {
			t.Errorf("%s may not be", show(f))
		}
	}
	for _, f := range wrong() {
		if filter.May(f) {
			t.Errorf("%s may be", show(f))
		}
	}
}

func TestMayOfKinds(t *testing.T) {
	sums := map[int]bool{0: true}
	for kind := 2; kind <= 7; kind++ {
		for sum := range everyKind {
			if sums[sum] {
				sums[sum|1<<kind] = true
			}
		}
	}
	if len(sums) != 64 || !sums[everyKind] {
		t.Fatal("just so many sums:", len(sums))
	}
	for kinds := -2000; kinds < 2000; kinds++ {
		if got := filter.May(api.Filter{Coll: "c", Kinds: kinds}); got != sums[kinds] {
			t.Errorf("of the kinds %d it may be: %v", kinds, got)
		}
	}
	for bit := range 64 {
		if got := filter.May(api.Filter{Kinds: 1 << bit}); got != (bit >= 2 && bit <= 7) {
			t.Errorf("of the bit %d it may be: %v", bit, got)
		}
	}
}

// P19.1: Match.

// told is an entry, and what the chapter's words say of it.
type told struct {
	e api.Entry
	// colls are the collections whose streams tell it.
	colls []string
	// all tells whether it is told whatever the path is; else these paths alone are.
	all   bool
	paths []string
}

// paths are those that the filters have, besides none.
var paths = []string{"a", "a.b", "a.b.c", "l", "l.1", "x", "_id", "_id.k", "a.b.c.d.e.f.g.h"}

// tolds are entries of all kinds in the collections c and d, and renames between these and e.
func tolds() []told {
	var l []told
	for _, c := range []string{"c", "d"} {
		at := func(e api.Entry, paths ...string) {
			l = append(l, told{e: e, colls: []string{c}, paths: paths})
		}
		at(insert(c, item(number(1))), "_id")
		at(insert(c, item(number(1), null)), "_id", "a")
		at(insert(c, item(one("k", null), one("b", number(1)))), "_id", "_id.k", "a", "a.b")
		at(insert(c, item(number(1), sample.Within(null, "b", "c"))), "_id", "a", "a.b", "a.b.c")
		at(insert(c, item(number(1), array(one("b", null)))), "_id", "a")
		at(insert(c, doc([]string{"x", "l", "_id"}, null, array(null, null), array(null))), "_id", "l", "l.1", "x")
		at(insert(c, doc([]string{"l", "_id"}, array(null), null)), "_id", "l")
		at(insert(c, doc([]string{"l", "_id"}, one("1", array()), null)), "_id", "l", "l.1")
		at(insert(c, item(number(1), one("x", null))), "_id", "a")
		at(update(c, null))
		at(update(c, null, set("a", null)), "a", "a.b", "a.b.c", "a.b.c.d.e.f.g.h")
		at(update(c, null, drop("a.b")), "a", "a.b", "a.b.c", "a.b.c.d.e.f.g.h")
		at(update(c, null, cut("a.b.c", 0)), "a", "a.b", "a.b.c", "a.b.c.d.e.f.g.h")
		at(update(c, null, set("a.b.d", null)), "a", "a.b")
		at(update(c, null, set("a.b.c.d.e.f.g.h", null)), "a", "a.b", "a.b.c", "a.b.c.d.e.f.g.h")
		at(update(c, null, set("a.b.c.d.e.f.g.i", null)), "a", "a.b", "a.b.c")
		at(update(c, null, drop("ab"), set("xa", null), set("b.a", null), cut("a_id", 1)))
		at(update(c, null, cut("l", 1)), "l", "l.1")
		at(update(c, null, set("l.0", null), set("l.10", null)), "l")
		at(update(c, null, set("y", null), set("l.1.x", null)), "l", "l.1")
		at(update(c, null, set("l.01", null), drop("x")), "l", "x")
		at(update(c, null, drop("y"), drop("x.y"), drop("a.c"), drop("z")), "x", "a")
		for _, e := range []api.Entry{remove(c, number(1)), remove(c, one("a", null)), create(c), dropAll(c)} {
			l = append(l, told{e: e, colls: []string{c}, all: true})
		}
		l = append(l, told{e: rename(c, "e"), colls: []string{c, "e"}, all: true}, told{e: rename("e", c), colls: []string{"e", c}, all: true})
	}
	return append(l, told{e: rename("c", "d"), colls: []string{"c", "d"}, all: true}, told{e: rename("d", "c"), colls: []string{"c", "d"}, all: true})
}

// matches asks for Match.
func matches(t *testing.T, f api.Filter, e api.Entry, want bool) {
	t.Helper()
	if got := filter.Match(f, e); got != want {
		t.Errorf("Match(%s, %s) = %v", show(f), show(e), got)
	}
}

func TestMatch(t *testing.T) {
	found := map[bool]int{}
	for _, x := range tolds() {
		for _, name := range []string{"", "c", "d", "e", "x", "cd"} {
			for _, p := range append(paths, "") {
				for kinds := 0; kinds <= everyKind; kinds += 4 {
					inColl := name == "" || slices.Contains(x.colls, name)
					atPath := p == "" || x.all || slices.Contains(x.paths, p)
					ofKind := kinds == 0 || kinds>>x.e.Kind&1 == 1
					want := inColl && atPath && ofKind
					matches(t, api.Filter{Coll: name, Path: steps(p), Kinds: kinds}, x.e, want)
					found[want]++
				}
			}
		}
	}
	if found[true] < 10000 || found[false] < 10000 {
		t.Error("just so many:", found)
	}
}

func TestMatchOfANoop(t *testing.T) {
	for _, e := range []api.Entry{noop, by(noop, 1, 0, 0), by(noop, 1<<40, 0, 0)} {
		for _, f := range good() {
			matches(t, f, e, false)
		}
	}
}

func TestMatchGoesByNoOtherField(t *testing.T) {
	for _, x := range tolds() {
		for _, e := range []api.Entry{by(x.e, 1, 0, 0), by(x.e, 0, 1, 2), by(x.e, 1<<40, 255, 1<<40)} {
			for _, f := range good() {
				matches(t, f, e, filter.Match(f, x.e))
			}
		}
	}
	// No collection's name but the whole one counts, and no other place of a name.
	for _, name := range []string{"a", "abc", "b", "AB", "ab.", " ab"} {
		for _, e := range []api.Entry{insert("ab", item(text(name), text(name))), remove("ab", text(name)), create("ab"), rename("ab", "ba"), update("ab", text(name), set(strings.Trim(name, ". "), text(name)))} {
			matches(t, api.Filter{Coll: name}, e, false)
			matches(t, api.Filter{Coll: "ab"}, e, true)
		}
	}
}

func TestMatchOfWhatMayNotBe(t *testing.T) {
	for _, e := range wrongEntries() {
		if entry.May(e) {
			t.Fatalf("%s may be", show(e))
		}
		for _, f := range append(good(), api.Filter{Coll: e.Coll}, api.Filter{Coll: e.To}, api.Filter{Coll: "d"}) {
			matches(t, f, e, false)
		}
	}
	for _, f := range wrong() {
		for _, x := range tolds() {
			matches(t, f, x.e, false)
		}
		for _, e := range []api.Entry{create(f.Coll), dropAll(f.Coll), noop, {}} {
			matches(t, f, e, false)
		}
	}
}

// P19.1: Ends.

// ends asks for Ends.
func ends(t *testing.T, f api.Filter, e api.Entry, want bool) {
	t.Helper()
	if got := filter.Ends(f, e); got != want {
		t.Errorf("Ends(%s, %s) = %v", show(f), show(e), got)
	}
}

func TestEnds(t *testing.T) {
	l := []api.Entry{noop, by(noop, 1<<40, 0, 0)}
	for _, x := range tolds() {
		l = append(l, x.e, by(x.e, 1<<40, 255, 1<<40))
	}
	found := 0
	for _, e := range l {
		for _, name := range []string{"", "c", "d", "e", "x", "cd"} {
			want := false
			switch e.Kind {
			case api.EntryDrop, api.EntryRename:
				want = name == e.Coll
			}
			// Whether it matches is not asked.
			for _, p := range append(paths, "") {
				for kinds := 0; kinds <= everyKind; kinds += 4 {
					ends(t, api.Filter{Coll: name, Path: steps(p), Kinds: kinds}, e, want)
				}
			}
			if want {
				found++
			}
		}
	}
	if found < 12 {
		t.Error("just so many ends:", found)
	}
}

func TestEndsOfWhatMayNotBe(t *testing.T) {
	for _, e := range wrongEntries() {
		for _, f := range append(good(), api.Filter{Coll: e.Coll}, api.Filter{Coll: e.To}, api.Filter{Coll: "d"}) {
			ends(t, f, e, false)
		}
	}
	for _, f := range wrong() {
		for _, e := range []api.Entry{dropAll("c"), rename("c", "d"), dropAll(f.Coll), rename(f.Coll, "d"), {}} {
			ends(t, f, e, false)
		}
	}
}

// P19.1: Of.

func TestOf(t *testing.T) {
	for _, c := range []struct {
		kinds []int
		want  int
	}{
		{nil, 0}, {[]int{}, 0},
		{[]int{api.EntryInsert}, 4}, {[]int{api.EntryUpdate}, 8}, {[]int{api.EntryDelete}, 16}, {[]int{api.EntryCreate}, 32}, {[]int{api.EntryDrop}, 64}, {[]int{api.EntryRename}, 128},
		{[]int{2, 3}, 12}, {[]int{3, 2}, 12}, {[]int{7, 2}, 132}, {[]int{2, 3, 4, 5, 6, 7}, everyKind}, {[]int{7, 6, 5, 4, 3, 2}, everyKind},
		{[]int{2, 2}, 4}, {[]int{2, 2, 2, 2}, 4}, {[]int{7, 7, 3, 7, 3}, 136},
		{[]int{1}, 0}, {[]int{0}, 0}, {[]int{8}, 0}, {[]int{-1}, 0}, {[]int{9}, 0}, {[]int{62, 63, 64, 65, 66, 67}, 0}, {[]int{math.MaxInt, math.MinInt}, 0}, {[]int{2 + 64, 3 + 256, 4 + 1<<32, -2, -62}, 0},
		{[]int{1, 2, 8}, 4}, {[]int{-1, 7, 0, 64, 6, 1, 7}, 192}, {slices.Repeat([]int{5, 1}, 10000), 32},
	} {
		if got := filter.Of(c.kinds...); got != c.want {
			t.Errorf("Of(%s) = %d, want %d", show(c.kinds), got, c.want)
		}
	}
}

func TestOfAllSums(t *testing.T) {
	for sum := range 256 {
		var kinds []int
		want := 0
		for kind := range 8 {
			if sum>>kind&1 == 1 {
				kinds = append(kinds, kind)
			}
		}
		for _, kind := range kinds {
			if kind >= 2 {
				want += 1 << kind
			}
		}
		if got := filter.Of(kinds...); got != want || !filter.May(api.Filter{Kinds: got}) {
			t.Errorf("Of(%v) = %d, want %d", kinds, got, want)
		}
	}
}

// Memory.

func TestNothingIsChanged(t *testing.T) {
	all := append(wrongEntries(), noop)
	for _, x := range tolds() {
		all = append(all, x.e)
	}
	roomy := make([]api.Entry, len(all), len(all)+1)
	for i, e := range all {
		roomy[i] = sample.RoomyEntry(e)
	}
	roomy[:len(all)+1][len(all)] = create("room")
	p := sample.RoomySteps(steps("a.b"))
	kinds := []int{2, 7, 9, 2}
	for _, f := range []api.Filter{{Path: p}, {Coll: "x", Path: p, Kinds: everyKind}} {
		filter.May(f)
		filter.Count(f, roomy)
		for _, e := range roomy {
			filter.Match(f, e)
			filter.Ends(f, e)
		}
	}
	filter.Of(kinds[:3]...)
	for i, e := range all {
		if !sample.UntouchedEntry(roomy[i], e) {
			t.Errorf("what was handed in is changed: %s", show(e))
		}
	}
	if !sample.AlikeEntries(roomy[:len(all)+1][len(all)], create("room")) || !slices.Equal(p[:cap(p)], sample.RoomySteps(steps("a.b"))[:cap(p)]) || !slices.Equal(kinds, []int{2, 7, 9, 2}) {
		t.Error("what was handed in is changed")
	}
}
