package apply

import (
	"slices"

	"tributary/api"
	"tributary/coll"
	"tributary/entry"
	"tributary/update"
)

// Lower answers the entry that the request a is in the database d.
func Lower(d *coll.DB, a api.Ask) (api.Entry, api.Errno) {
	switch {
	case d == nil:
		return api.Entry{}, api.ErrClosed
	case !numbered(a):
		return api.Entry{}, api.ErrArg
	}
	// What is refused is found out by trying, in a database of its own.
	e, no := lower(d.Fork(), a)
	if no != api.OK {
		return api.Entry{}, no
	}
	e.Session, e.Number = a.Session, a.Number
	// New memory, as the entry has parts of the request.
	return entry.Clone(e), api.OK
}

// numbered tells whether a's session and number may be.
func numbered(a api.Ask) bool {
	return a.Session >= 1 && a.Session <= api.MaxSession && a.Number >= 1 && a.Number <= api.MaxNumber
}

// lower answers the entry that a is in d, which may be changed, but for its session and number.
func lower(d *coll.DB, a api.Ask) (api.Entry, api.Errno) {
	switch a.Kind {
	case api.AskInsert:
		return insert(d, a.Coll, a.Doc)
	case api.AskUpdate:
		return updated(d, a)
	case api.AskUpsert:
		return upserted(d, a)
	case api.AskDelete:
		return api.Entry{Kind: api.EntryDelete, Coll: a.Coll, Id: a.Id}, d.Delete(a.Coll, a.Id)
	case api.AskCreate:
		return api.Entry{Kind: api.EntryCreate, Coll: a.Coll}, d.Create(a.Coll)
	case api.AskDrop:
		return api.Entry{Kind: api.EntryDrop, Coll: a.Coll}, d.Drop(a.Coll)
	case api.AskRename:
		return api.Entry{Kind: api.EntryRename, Coll: a.Coll, To: a.To}, d.Rename(a.Coll, a.To)
	}
	return api.Entry{}, api.ErrArg
}

// insert answers the entry that inserts v into a collection of d, which may be changed.
func insert(d *coll.DB, name string, v api.Value) (api.Entry, api.Errno) {
	if e := d.Insert(name, v); e != api.OK {
		return api.Entry{}, e
	}
	// What was inserted has an id.
	id := v.Items[slices.Index(v.Names, api.IdName)]
	return api.Entry{Kind: api.EntryInsert, Coll: name, Id: id, Doc: v}, api.OK
}

// updated answers the entry that changes the document of a's id as a asks.
func updated(d *coll.DB, a api.Ask) (api.Entry, api.Errno) {
	v, e := d.Find(a.Coll, a.Id)
	if e != api.OK {
		return api.Entry{}, e
	}
	_, l, e := update.Apply(v, a.Spec)
	return api.Entry{Kind: api.EntryUpdate, Coll: a.Coll, Id: a.Id, Deltas: l}, e
}

// upserted answers the entry that changes the document of a's id as a asks, or that inserts one, where there is none.
func upserted(d *coll.DB, a api.Ask) (api.Entry, api.Errno) {
	if _, e := d.Find(a.Coll, a.Id); e != api.ErrNone {
		return updated(d, a)
	}
	v, e := update.Upsert(a.Id, a.Spec)
	if e != api.OK {
		return api.Entry{}, e
	}
	return insert(d, a.Coll, v)
}
