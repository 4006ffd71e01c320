package event_test

import (
	"testing"

	"tributary/api"
	"tributary/event"
	"tributary/sample"
)

// P20.2: Same.

// apart are events no two of which are the same: of one that has all fields, each field changed in turn.
func apart() []api.Event {
	full := api.Event{
		Kind: api.EntryUpdate, Index: 1, Term: 1, Coll: "c", To: "d", Id: number(1), Deltas: []api.Delta{set("a", null), cut("b", 1)},
		Pre: item(number(1)), Had: api.ImageHere, Post: item(number(1), null), Has: api.ImageHere, Token: []byte{1, 2, 3},
	}
	l := []api.Event{{}, full}
	with := func(do func(v *api.Event)) {
		v := full
		do(&v)
		l = append(l, v)
		w := api.Event{}
		do(&w)
		l = append(l, w)
	}
	for _, n := range []int{5, -1, 1 << 40, 3 + 1<<32} {
		with(func(v *api.Event) { v.Kind = n })
		with(func(v *api.Event) { v.Index = n })
		with(func(v *api.Event) { v.Term = n })
		with(func(v *api.Event) { v.Had = n })
		with(func(v *api.Event) { v.Has = n })
	}
	for _, s := range []string{"x", "$", "C", "cd", "c\x00", letters(5000)} {
		with(func(v *api.Event) { v.Coll = s })
		with(func(v *api.Event) { v.To = s })
	}
	for _, x := range []api.Value{
		{Int: 1}, {Text: "a"}, {Kind: -1}, {Kind: 8}, {Kind: 8, Int: 1}, {Items: []api.Value{{}}}, {Items: []api.Value{{Int: 1}}}, {Names: []string{""}}, {Names: []string{"a"}}, null, {Kind: api.KindNull, Int: 1}, text("a"), bytes("a"), array(null), array(number(1)), array(null, null),
		one("a", none), one("a", api.Value{Int: 1}), one("$", null), one("a", null), doc([]string{"a", "b"}, null, null), doc([]string{"b", "a"}, null, null), doc([]string{"a"}), deep(20), deep(21),
	} {
		with(func(v *api.Event) { v.Id = x })
		with(func(v *api.Event) { v.Pre = x })
		with(func(v *api.Event) { v.Post = x })
		with(func(v *api.Event) { v.Deltas = []api.Delta{{Value: x}} })
	}
	for _, d := range []api.Delta{{}, {Kind: 9}, {N: 7}, {N: -1}, {Path: []string{""}}, drop("a"), cut("a", 0), set("a", null), set("a.b", null)} {
		with(func(v *api.Event) { v.Deltas = []api.Delta{d} })
		with(func(v *api.Event) { v.Deltas = []api.Delta{d, drop("z")} })
	}
	for _, b := range []string{"\x00", "\x01\x02", "\x01\x02\x04", "\x01\x02\x03\x00", letters(100)} {
		with(func(v *api.Event) { v.Token = []byte(b) })
	}
	return l
}

func TestSame(t *testing.T) {
	l := apart()
	for i, a := range l {
		for k, b := range l {
			if got := event.Same(a, sample.RoomyEvent(b)); got != (i == k) {
				t.Errorf("Same(%s, %s) = %v", show(a), show(b), got)
			}
		}
	}
	if len(l) < 200 {
		t.Error("just so many:", len(l))
	}
}

func TestSameOfNothing(t *testing.T) {
	none := api.Value{Items: []api.Value{}, Names: []string{}}
	empty := api.Event{Id: none, Deltas: []api.Delta{}, Pre: none, Post: none, Token: []byte{}}
	if !event.Same(empty, api.Event{}) || !event.Same(api.Event{}, empty) {
		t.Error("empty lists are not as none")
	}
}

func TestSameOfWhatIsDeep(t *testing.T) {
	for _, make := range []func(levels int) api.Value{sample.Deep, func(levels int) api.Value { return sample.Levels(null, levels) }} {
		a, b, c := make(30000), make(30000), make(30001)
		if !event.Same(api.Event{Pre: a}, api.Event{Pre: b}) || event.Same(api.Event{Pre: a}, api.Event{Pre: c}) || event.Same(api.Event{Post: a}, api.Event{Id: a}) {
			t.Error("what is deep is the same where it is not, or not where it is")
		}
	}
}

func TestSameOfEventsOfEntries(t *testing.T) {
	var l []api.Event
	for i, r := range rows() {
		r.e.Term = 1
		v, e := event.Of(r.e, 1+i%3, r.pre.v, r.pre.how)
		want(t, "Of", e, api.OK)
		l = append(l, v)
	}
	for _, index := range []int{1, 2} {
		v, e := event.End(index, 1, "c")
		want(t, "End", e, api.OK)
		l = append(l, v)
	}
	for _, a := range l {
		for _, b := range l {
			if got := event.Same(a, b); got != alikeEvents(a, b) {
				t.Errorf("Same(%s, %s) = %v", show(a), show(b), got)
			}
		}
	}
}
