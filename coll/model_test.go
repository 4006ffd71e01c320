package coll_test

import (
	"fmt"
	"maps"
	"slices"
	"testing"

	"tributary/api"
	"tributary/coll"
	"tributary/sample"
	"tributary/varint"
)

// P14.1 to P14.4, by calls that chance makes, always the same ones, on databases and on what the chapter's words say of them.

// plain is a database, plainly: of each collection the documents, by the texts of their ids.
type plain map[string]map[string]api.Value

// copied answers the same, and another one.
func (p plain) copied() plain {
	other := plain{}
	for name, l := range p {
		other[name] = maps.Clone(l)
	}
	return other
}

// call is one of a database's calls.
type call struct {
	kind, name, to string
	doc            api.Value
}

// key is an id's text.
func key(v api.Value) string { return fmt.Sprint(v) }

// badName tells whether s is one of those names that may not be.
func badName(s string) bool { return slices.Contains(badNames, s) }

// do is what a call says, and does.
func (p plain) do(c call) api.Errno {
	l, there := p[c.name]
	switch {
	case c.kind == "Create":
		switch {
		case badName(c.name):
			return api.ErrColl
		case there:
			return api.ErrTwice
		case len(p) == 16:
			return api.ErrFull
		}
		p[c.name] = map[string]api.Value{}
		return api.OK
	case !there:
		return api.ErrColl
	case c.kind == "Drop":
		delete(p, c.name)
		return api.OK
	case c.kind == "Rename":
		_, other := p[c.to]
		switch {
		case badName(c.to):
			return api.ErrColl
		case other:
			return api.ErrTwice
		}
		delete(p, c.name)
		p[c.to] = l
		return api.OK
	}
	return doOn(l, c)
}

// doOn is what a call says, and does, of a collection's documents.
func doOn(l map[string]api.Value, c call) api.Errno {
	id, is := at(c.doc, "_id")
	_, there := l[key(id)]
	switch {
	case !is:
		return api.ErrValue
	case c.kind == "Insert" && there:
		return api.ErrTwice
	case c.kind == "Insert" && len(l) == 256:
		return api.ErrFull
	case c.kind != "Insert" && !there:
		return api.ErrNone
	case c.kind == "Delete":
		delete(l, key(id))
	default:
		l[key(id)] = c.doc
	}
	return api.OK
}

// done does a call to a database.
func done(d *coll.DB, c call) api.Errno {
	switch c.kind {
	case "Create":
		return d.Create(c.name)
	case "Drop":
		return d.Drop(c.name)
	case "Rename":
		return d.Rename(c.name, c.to)
	case "Insert":
		return d.Insert(c.name, c.doc)
	case "Replace":
		return d.Replace(c.name, c.doc)
	}
	id, _ := at(c.doc, "_id")
	return d.Delete(c.name, id)
}

// agree asks whether a database is as the plain one says, by all calls that tell.
func agree(t *testing.T, d *coll.DB, p plain) {
	t.Helper()
	if got, want := d.Names(), slices.Sorted(maps.Keys(p)); !slices.Equal(got, want) {
		t.Fatalf("Names() = %q, want %q", got, want)
	}
	for name, l := range p {
		n, told := 0, all(d, name)
		for i, v := range told {
			id, _ := at(v, "_id")
			found, e := d.Find(name, id)
			if !alike(l[key(id)], v) || e != api.OK || !alike(found, v) || i > 0 && !ahead(told[i-1], v, "_id") {
				t.Fatalf("%s tells %s", name, show(v))
			}
			n++
		}
		if n != len(l) || d.Len(name) != n {
			t.Fatalf("%s tells %d, and Len %d, want %d", name, n, d.Len(name), len(l))
		}
	}
	code := d.Code()
	s := varint.From(code)
	if again := coll.Read(s); s.Done() != api.OK || string(again.Code()) != string(code) {
		t.Fatalf("the code %q is not read", code)
	}
}

// anyCall makes a call, mostly of collections that there are.
func anyCall(chance *sample.Chance) call {
	kinds := []string{"Insert", "Insert", "Insert", "Replace", "Delete", "Delete"}
	if chance.Below(6) == 0 {
		kinds = []string{"Create", "Create", "Create", "Rename", "Drop", "Rename"}
	}
	names := func() string {
		if chance.Below(20) == 0 {
			return badNames[chance.Below(len(badNames))]
		}
		return fmt.Sprint("c", chance.Below(1+chance.Below(20)))
	}
	ids := rising()
	c := call{kind: kinds[chance.Below(len(kinds))], name: names(), to: names()}
	c.doc = item(ids[chance.Below(len(ids))], number(chance.Below(1000)))
	if chance.Below(30) == 0 && c.kind != "Delete" {
		c.doc = one("a", null)
	}
	return c
}

func TestDatabasesByChance(t *testing.T) {
	chance, found := sample.Chance(17), map[string]int{}
	for range 40 {
		all := []*coll.DB{coll.New()}
		plains := []plain{{}}
		for i := range 400 {
			k := chance.Below(len(all))
			d, p := all[k], plains[k]
			switch chance.Below(80) {
			case 0:
				all, plains = append(all, d.Fork()), append(plains, p.copied())
			case 1:
				all[k] = coll.Read(varint.From(d.Code()))
			default:
				c := anyCall(&chance)
				want, got := p.do(c), done(d, c)
				if got != want {
					t.Fatalf("%s: %d, want %d", show(c), got, want)
				}
				found[fmt.Sprint(c.kind, want)]++
			}
			if i%50 == 0 {
				for k := range all {
					agree(t, all[k], plains[k])
				}
			}
		}
		for k := range all {
			agree(t, all[k], plains[k])
		}
	}
	for _, what := range []string{"Create0", "Create140", "Create5", "Drop0", "Drop140", "Rename0", "Rename140", "Rename5", "Insert0", "Insert140", "Insert20", "Insert5", "Replace0", "Replace140", "Replace20", "Replace4", "Delete0", "Delete140", "Delete4"} {
		if found[what] < 10 {
			t.Errorf("just so many of %s: %d", what, found[what])
		}
	}
}
