package deed_test

import (
	"testing"

	"tributary/api"
	"tributary/coll"
	"tributary/deed"
	"tributary/sample"
)

var null, number = sample.Null(), sample.Number

// base answers a database of a collection c with one document.
func base(t *testing.T) *coll.DB {
	t.Helper()
	d := coll.New()
	if d.Create("c") != api.OK || d.Insert("c", sample.Item(number(1), number(5))) != api.OK {
		t.Fatal("there is no database")
	}
	return d
}

// Whether entries may be is not asked: what is done, and refused, is what the database and the changes say.
func TestDo(t *testing.T) {
	for _, c := range []struct {
		e  api.Entry
		do func(d *coll.DB) api.Errno
	}{
		{sample.Insert("c", sample.Item(null)), func(d *coll.DB) api.Errno { return d.Insert("c", sample.Item(null)) }},
		{api.Entry{Kind: api.EntryInsert, Coll: "c", Id: number(7), Doc: sample.Item(null)}, func(d *coll.DB) api.Errno { return d.Insert("c", sample.Item(null)) }},
		{sample.Update("c", number(1), sample.Set("a", null)), func(d *coll.DB) api.Errno { return d.Replace("c", sample.Item(number(1), null)) }},
		{sample.Update("c", number(1), sample.Drop("_id"), sample.Set("_id", number(1))), func(d *coll.DB) api.Errno {
			return d.Replace("c", sample.Doc([]string{"a", "_id"}, number(5), number(1)))
		}},
		{sample.Delete("c", number(1)), func(d *coll.DB) api.Errno { return d.Delete("c", number(1)) }},
		{sample.Create("d"), func(d *coll.DB) api.Errno { return d.Create("d") }},
		{sample.DropAll("c"), func(d *coll.DB) api.Errno { return d.Drop("c") }},
		{sample.RenameAll("c", "d"), func(d *coll.DB) api.Errno { return d.Rename("c", "d") }},
		{sample.Noop(), func(*coll.DB) api.Errno { return api.OK }},
		{api.Entry{}, func(*coll.DB) api.Errno { return api.OK }},
		{api.Entry{Kind: 8, Coll: "c"}, func(*coll.DB) api.Errno { return api.OK }},
	} {
		d, other := base(t), base(t)
		if no, wanted := deed.Do(d, c.e), c.do(other); no != api.OK || wanted != api.OK || string(d.Code()) != string(other.Code()) {
			t.Errorf("Do(%v): %d, makes %q, want %q", c.e, no, d.Code(), other.Code())
		}
	}
}

func TestDoRefuses(t *testing.T) {
	for _, c := range []struct {
		e  api.Entry
		no api.Errno
	}{
		{sample.Insert("c", sample.Item(number(1))), api.ErrTwice}, {sample.Insert("c", null), api.ErrValue},
		{sample.Update("x", number(1)), api.ErrColl}, {sample.Update("c", null), api.ErrNone}, {sample.Update("c", number(1), api.Delta{}), api.ErrArg}, {sample.Update("c", number(1), sample.Set("a.b", null)), api.ErrPath}, {sample.Update("c", number(1), sample.Drop("_id")), api.ErrValue}, {sample.Update("c", number(1), sample.Set("_id", null)), api.ErrNone},
		{sample.Delete("c", null), api.ErrNone}, {sample.Create("c"), api.ErrTwice}, {sample.DropAll("x"), api.ErrColl}, {sample.RenameAll("c", "c"), api.ErrTwice},
	} {
		d := base(t)
		if no := deed.Do(d, c.e); no != c.no || string(d.Code()) != string(base(t).Code()) {
			t.Errorf("Do(%v): %d, want %d, makes %q", c.e, no, c.no, d.Code())
		}
	}
}
