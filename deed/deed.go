// Package deed does what entries say in a database, and events, which say the same.
package deed

import (
	"tributary/api"
	"tributary/coll"
	"tributary/delta"
)

// Do does what e says in d, whether e may be or not; what says nothing does nothing.
func Do(d *coll.DB, e api.Entry) api.Errno {
	switch e.Kind {
	case api.EntryInsert:
		return d.Insert(e.Coll, e.Doc)
	case api.EntryUpdate:
		return change(d, e)
	case api.EntryDelete:
		return d.Delete(e.Coll, e.Id)
	case api.EntryCreate:
		return d.Create(e.Coll)
	case api.EntryDrop:
		return d.Drop(e.Coll)
	case api.EntryRename:
		return d.Rename(e.Coll, e.To)
	}
	return api.OK
}

// change puts what the changes of e make of a document in its place.
func change(d *coll.DB, e api.Entry) api.Errno {
	v, no := d.Find(e.Coll, e.Id)
	if no != api.OK {
		return no
	}
	v, no = delta.Apply(v, e.Deltas)
	if no != api.OK {
		return no
	}
	return d.Replace(e.Coll, v)
}
