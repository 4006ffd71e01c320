package filter_test

import (
	"testing"

	"tributary/api"
	"tributary/filter"
	"tributary/sample"
)

// P19.2: Count.

// counts asks for Count.
func counts(t *testing.T, f api.Filter, l []api.Entry, want int) {
	t.Helper()
	if got := filter.Count(f, l); got != want {
		t.Errorf("Count(%s, %s) = %d, want %d", show(f), show(l), got, want)
	}
}

// stream are entries of all kinds; c is dropped at the eighth of them.
func stream() []api.Entry {
	return []api.Entry{
		noop, create("c"), create("d"), insert("c", item(number(1), null)), insert("d", item(number(1))), update("c", number(1), set("b", null)), rename("d", "e"),
		dropAll("c"), create("c"), noop, insert("c", item(number(1))), remove("c", number(1)), rename("c", "d"), rename("e", "c"), remove("c", number(1)),
	}
}

func TestCount(t *testing.T) {
	l := stream()
	for _, c := range []struct {
		f    api.Filter
		l    []api.Entry
		want int
	}{
		{api.Filter{}, nil, 0}, {api.Filter{Coll: "c"}, []api.Entry{}, 0}, {api.Filter{}, l, 13}, {api.Filter{Kinds: everyKind}, l, 13}, {api.Filter{Coll: "x"}, l, 0},
		{api.Filter{Coll: "c"}, l, 4}, {api.Filter{Coll: "c"}, l[:8], 4}, {api.Filter{Coll: "c"}, l[:7], 3}, {api.Filter{Coll: "c"}, l[7:], 1}, {api.Filter{Coll: "c"}, l[8:], 4}, {api.Filter{Coll: "c"}, l[12:], 1}, {api.Filter{Coll: "c"}, l[13:], 2},
		{api.Filter{Coll: "d"}, l, 3}, {api.Filter{Coll: "d"}, l[7:], 1}, {api.Filter{Coll: "e"}, l, 2}, {api.Filter{Coll: "e"}, l[:13], 1},
		// An end is an end, also where it does not match.
		{api.Filter{Coll: "c", Kinds: filter.Of(api.EntryCreate)}, l, 1}, {api.Filter{Coll: "c", Kinds: filter.Of(api.EntryCreate)}, l[8:], 1}, {api.Filter{Coll: "c", Kinds: filter.Of(api.EntryCreate, api.EntryDrop)}, l, 2}, {api.Filter{Coll: "c", Kinds: filter.Of(api.EntryDelete)}, l, 0}, {api.Filter{Coll: "c", Kinds: filter.Of(api.EntryDelete)}, l[8:], 1},
		{api.Filter{Kinds: filter.Of(api.EntryCreate)}, l, 3}, {api.Filter{Kinds: filter.Of(api.EntryDrop, api.EntryRename)}, l, 4},
		{api.Filter{Coll: "c", Path: steps("a")}, l, 3}, {api.Filter{Coll: "c", Path: steps("b")}, l, 3}, {api.Filter{Coll: "c", Path: steps("x")}, l, 2}, {api.Filter{Path: steps("a")}, l, 10},
		// What stands at the end, and alone.
		{api.Filter{Coll: "c"}, []api.Entry{dropAll("c")}, 1}, {api.Filter{Coll: "c"}, []api.Entry{dropAll("c"), create("c")}, 1}, {api.Filter{Coll: "c"}, []api.Entry{rename("c", "d"), create("c")}, 1}, {api.Filter{Coll: "d"}, []api.Entry{rename("c", "d"), remove("d", null)}, 2},
		{api.Filter{Coll: "c", Kinds: 4}, []api.Entry{dropAll("c"), insert("c", item(null))}, 0}, {api.Filter{}, []api.Entry{dropAll("c"), rename("d", "e"), create("c")}, 3}, {api.Filter{}, []api.Entry{noop, noop}, 0},
		// What may not be neither matches nor ends anything.
		{api.Filter{Coll: "c"}, []api.Entry{{}, create("c"), by(dropAll("c"), -1, 0, 0), create("c"), rename("c", "c"), dropAll("c"), create("c")}, 3},
		{api.Filter{}, []api.Entry{{}, {Kind: 8}, create("$"), create("c")}, 1},
		{api.Filter{Kinds: 1}, l, 0}, {api.Filter{Coll: "$"}, l, 0}, {api.Filter{Coll: "c", Path: []string{""}}, l, 0}, {api.Filter{Coll: "c", Kinds: -4}, l, 0},
	} {
		counts(t, c.f, c.l, c.want)
	}
}

// counted is what Count's words say, by Match and Ends.
func counted(f api.Filter, l []api.Entry) int {
	n := 0
	for i, e := range l {
		ended := false
		for _, ahead := range l[:i] {
			ended = ended || filter.Ends(f, ahead)
		}
		if !ended && filter.Match(f, e) {
			n++
		}
	}
	return n
}

func TestCountOfSmallStreams(t *testing.T) {
	chosen := []api.Entry{noop, insert("c", item(null, null)), update("c", null, set("b", null)), create("d"), dropAll("c"), rename("c", "d"), rename("d", "c"), by(dropAll("c"), 0, 256, 0), {}}
	found := map[int]int{}
	for _, f := range []api.Filter{{}, {Coll: "c"}, {Coll: "d"}, {Coll: "c", Path: steps("a")}, {Coll: "c", Kinds: 4 + 128}, {Path: steps("b"), Kinds: everyKind}, {Coll: "c", Kinds: 3}} {
		for n := range 9 * 9 * 9 * 9 {
			all := []api.Entry{chosen[n%9], chosen[n/9%9], chosen[n/81%9], chosen[n/729]}
			// What lies behind the list's end is no entry.
			for size := range 5 {
				want := counted(f, all[:size])
				counts(t, f, all[:size], want)
				found[want]++
			}
		}
	}
	for n := range 5 {
		if found[n] < 100 {
			t.Errorf("just so many of %d: %d", n, found[n])
		}
	}
}

// P19.3.

func TestTheEmptyFilterMatchesAllButNoops(t *testing.T) {
	for _, x := range tolds() {
		matches(t, api.Filter{}, x.e, true)
		matches(t, api.Filter{Path: []string{}}, x.e, true)
	}
	matches(t, api.Filter{}, noop, false)
	counts(t, api.Filter{}, stream(), 13)
}

func TestAFilterMatchesMoreWithoutAPathOrKinds(t *testing.T) {
	chance, found := sample.Chance(5), 0
	all := tolds()
	for range 20000 {
		e := all[chance.Below(len(all))].e
		f := api.Filter{Coll: []string{"", "c", "d", "e"}[chance.Below(4)], Path: steps(paths[chance.Below(len(paths))]), Kinds: 4 * chance.Below(64)}
		if !filter.Match(f, e) {
			continue
		}
		found++
		for _, wider := range []api.Filter{{Coll: f.Coll, Kinds: f.Kinds}, {Coll: f.Coll, Path: f.Path}, {Coll: f.Coll}, {Path: f.Path, Kinds: f.Kinds}, {}} {
			matches(t, wider, e, true)
		}
	}
	if found < 1000 {
		t.Error("just so many:", found)
	}
}
