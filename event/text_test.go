package event_test

import (
	"fmt"
	"math"
	"strings"
	"testing"

	"tributary/api"
	"tributary/codec"
	"tributary/event"
	"tributary/sample"
)

// P20.4: Text.

// at answers v at an index and a term.
func at(v api.Event, index, term int) api.Event {
	v.Index, v.Term = index, term
	return v
}

// behind answers v as an event of an id, behind which a document stands.
func behind(v api.Event, id, post api.Value) api.Event {
	v.Id, v.Post, v.Has = id, post, api.ImageHere
	return v
}

// tells asks for an event's text.
func tells(t *testing.T, v api.Event, want string) {
	t.Helper()
	if got, e := event.Text(v); e != api.OK || got != want {
		t.Errorf("Text(%s) = %s, %d, want %s", show(v), show(got), e, show(want))
	}
}

func TestText(t *testing.T) {
	v := item(number(1), text("x"))
	for _, c := range []struct {
		v    api.Event
		want string
	}{
		{at(behind(inserted("c", none), number(1), v), 5, 2), `5.2 insert "c" 1 {"_id":1,"a":"x"}`},
		{at(behind(changed("c", none), number(1), v), 6, 2), `6.2 update "c" 1 {"_id":1,"a":"x"}`},
		{at(changed("c", number(1), set("a", null)), 7, 3), `7.3 update "c" 1`},
		{at(deleted("c", number(1)), 8, 3), `8.3 delete "c" 1`},
		{at(created("c"), 9, 3), `9.3 create "c"`},
		{at(dropped("c"), 10, 3), `10.3 drop "c"`},
		{at(renamed("c", "d"), 11, 3), `11.3 rename "c" "d"`},
		{api.Event{Kind: 8, Index: 12, Term: 4, Coll: "c"}, `12.4 end "c"`},
		{at(created("c"), 1<<40, 1<<40), `1099511627776.1099511627776 create "c"`},
		{at(created("c"), 0, 0), `0.0 create "c"`}, {at(created("c"), 1, -1), `1.-1 create "c"`}, {at(created("c"), -1, 1), `-1.1 create "c"`}, {at(created("c"), -10, -20), `-10.-20 create "c"`},
		{at(created("c"), math.MinInt, math.MaxInt), `-9223372036854775808.9223372036854775807 create "c"`}, {at(created("c"), math.MaxInt, math.MinInt), `9223372036854775807.-9223372036854775808 create "c"`},
		{behind(inserted("c", none), number(-7), null), `0.0 insert "c" -7 null`}, {behind(inserted("c", none), text(`a"`), array(bytes("\x00"), sample.Null())), `0.0 insert "c" "a\x22" [h"\x00",null]`},
		{deleted("c", text("")), `0.0 delete "c" ""`}, {deleted("c", one("a", doc(nil))), `0.0 delete "c" {"a":{}}`}, {deleted("c", bytes("\xff")), `0.0 delete "c" h"\xff"`},
	} {
		tells(t, c.v, c.want)
	}
}

func TestTextOfEachKindBelowZero(t *testing.T) {
	for kind, want := range map[int]string{
		api.EntryInsert: `insert "c" 1 {"_id":1}`, api.EntryUpdate: `update "c" 1 {"_id":1}`, api.EntryDelete: `delete "c" 1`, api.EntryCreate: `create "c"`, api.EntryDrop: `drop "c"`, api.EntryRename: `rename "c" "d"`, api.EventInvalid: `end "c"`,
	} {
		for _, n := range []int{0, 1, -1, 300, -300, math.MaxInt, math.MinInt} {
			for _, m := range []int{0, 1, -1, -12345, math.MaxInt, math.MinInt} {
				// What is not told may be anything.
				v := api.Event{Kind: kind, Index: n, Term: m, Coll: "c", To: "d", Id: number(1), Post: item(number(1)), Has: api.ImageHere, Pre: api.Value{Kind: 8}, Had: 7, Deltas: []api.Delta{{}}, Token: []byte("x")}
				tells(t, v, fmt.Sprintf("%d.%d %s", n, m, want))
			}
		}
	}
}

// untidy are texts, and how they stand between quotes.
func untidy() map[string]string {
	l := map[string]string{"": `""`, " ": `" "`, "a b": `"a b"`, `"`: `"\x22"`, `\`: `"\x5c"`, "\x00\x1f\x7f\x80\xff": `"\x00\x1f\x7f\x80\xff"`, "\u00e9": `"\xc3\xa9"`, "~!.$": `"~!.$"`, "\n\t": `"\x0a\x09"`}
	for c := range 256 {
		b := string([]byte{byte(c)})
		quoted, _ := codec.Print(text(b))
		l[b] = quoted
	}
	// These may not be names, but nothing of them is refused: a value so long could not be printed.
	for _, n := range []int{32, 33, 2047, 2048, 2049, 4093, 4094, 4096, 4097, 10000, 1 << 20} {
		l[letters(n)] = `"` + letters(n) + `"`
		l[strings.Repeat("\xff", n)] = `"` + strings.Repeat(`\xff`, n) + `"`
		l["\xe9"+strings.Repeat("a\\", n)] = `"\xe9` + strings.Repeat(`a\x5c`, n) + `"`
	}
	return l
}

func TestTextOfNames(t *testing.T) {
	for s, quoted := range untidy() {
		tells(t, at(created(s), 1, 2), "1.2 create "+quoted)
		tells(t, renamed("c", s), `0.0 rename "c" `+quoted)
		tells(t, renamed(s, s), "0.0 rename "+quoted+" "+quoted)
		tells(t, deleted(s, null), "0.0 delete "+quoted+" null")
	}
}

// refusedText asks whether there is no text, and why.
func refusedText(t *testing.T, v api.Event, no api.Errno) {
	t.Helper()
	if got, e := event.Text(v); e != no || got != "" {
		t.Errorf("Text(%s) = %s, %d, want %d", show(v), show(got), e, no)
	}
}

func TestTextOfNoKind(t *testing.T) {
	for _, kind := range noKinds {
		refusedText(t, api.Event{Kind: kind}, api.ErrArg)
		refusedText(t, api.Event{Kind: kind, Index: 1, Term: 1, Coll: "c", Id: number(1), Post: item(number(1)), Has: api.ImageHere}, api.ErrArg)
		refusedText(t, api.Event{Kind: kind, Id: deep(8), Post: deep(8)}, api.ErrArg)
	}
}

func TestTextOfWhatCanNotBePrinted(t *testing.T) {
	v := item(number(1))
	for _, c := range []struct {
		v  api.Value
		no api.Errno
	}{
		{none, api.ErrValue}, {api.Value{Kind: 8}, api.ErrValue}, {api.Value{Kind: api.KindNull, Int: 1}, api.ErrValue}, {array(none), api.ErrValue}, {one("$", null), api.ErrValue}, {one("_id", array(none)), api.ErrValue},
		{deep(8), api.ErrDepth}, {item(deep(7)), api.ErrDepth}, {sample.Deep(30000), api.ErrDepth}, {text(letters(4094)), api.ErrSize}, {item(text(letters(4088))), api.ErrSize},
	} {
		refusedText(t, behind(inserted("c", none), c.v, v), c.no)
		refusedText(t, behind(inserted("c", none), number(1), c.v), c.no)
		refusedText(t, behind(changed("c", none), c.v, v), c.no)
		refusedText(t, behind(changed("c", none), number(1), c.v), c.no)
		refusedText(t, changed("c", c.v), c.no)
		refusedText(t, deleted("c", c.v), c.no)
		// An insert tells what stands behind it, whatever is known of it.
		for _, has := range []int{0, api.ImageNone, api.ImageExpired, 9} {
			x := behind(inserted("c", none), number(1), c.v)
			x.Has = has
			refusedText(t, x, c.no)
		}
		// What is not told is not asked for.
		for _, has := range []int{0, api.ImageNone, api.ImageExpired, 9, -1} {
			x := behind(changed("c", none), number(1), c.v)
			x.Has = has
			tells(t, x, `0.0 update "c" 1`)
		}
		tells(t, behind(deleted("c", none), number(1), c.v), `0.0 delete "c" 1`)
		for _, x := range []struct {
			v    api.Event
			want string
		}{{created("c"), `create "c"`}, {dropped("c"), `drop "c"`}, {renamed("c", "d"), `rename "c" "d"`}, {api.Event{Kind: 8, Coll: "c"}, `end "c"`}} {
			tells(t, behind(x.v, c.v, c.v), "0.0 "+x.want)
		}
	}
	// The id is asked first.
	refusedText(t, behind(inserted("c", none), deep(8), none), api.ErrDepth)
	refusedText(t, behind(changed("c", none), none, deep(8)), api.ErrValue)
	refusedText(t, behind(changed("c", none), text(letters(4094)), deep(8)), api.ErrSize)
}

func TestTextOfEventsOfEntries(t *testing.T) {
	found := map[api.Errno]int{}
	for _, r := range rows() {
		r.e.Term = 2
		v, e := event.Of(r.e, 7, r.pre.v, r.pre.how)
		want(t, "Of", e, api.OK)
		words := []string{"7.2", []string{"insert", "update", "delete", "create", "drop", "rename"}[v.Kind-2], ""}
		words[2], _ = codec.Print(text(v.Coll))
		if v.To != "" {
			to, _ := codec.Print(text(v.To))
			words = append(words, to)
		}
		if !alike(v.Id, none) {
			id, _ := codec.Print(v.Id)
			words = append(words, id)
		}
		no := api.OK
		if r.post.how == api.ImageHere {
			var post string
			post, no = codec.Print(r.post.v)
			words = append(words, post)
		}
		found[no]++
		if no == api.OK {
			tells(t, v, strings.Join(words, " "))
		} else {
			refusedText(t, v, no)
		}
	}
	if found[api.OK] < 100 || found[api.ErrDepth] < 2 || found[api.ErrSize] < 1 {
		t.Error("just so many:", found)
	}
}
