package sample

import (
	"slices"

	"tributary/api"
)

// Insert answers an entry that inserts a document; its id is the item _id, if there is one.
func Insert(coll string, doc api.Value) api.Entry {
	e := api.Entry{Kind: api.EntryInsert, Coll: coll, Doc: doc}
	if i := slices.Index(doc.Names, api.IdName); i >= 0 {
		e.Id = doc.Items[i]
	}
	return e
}

// Update answers an entry that changes a document.
func Update(coll string, id api.Value, l ...api.Delta) api.Entry {
	return api.Entry{Kind: api.EntryUpdate, Coll: coll, Id: id, Deltas: l}
}

// Delete answers an entry that deletes a document.
func Delete(coll string, id api.Value) api.Entry {
	return api.Entry{Kind: api.EntryDelete, Coll: coll, Id: id}
}

// Create answers an entry that makes a collection.
func Create(coll string) api.Entry { return api.Entry{Kind: api.EntryCreate, Coll: coll} }

// DropAll answers an entry that drops a collection.
func DropAll(coll string) api.Entry { return api.Entry{Kind: api.EntryDrop, Coll: coll} }

// RenameAll answers an entry that gives a collection another name.
func RenameAll(coll, to string) api.Entry {
	return api.Entry{Kind: api.EntryRename, Coll: coll, To: to}
}

// Noop answers an entry that does nothing.
func Noop() api.Entry { return api.Entry{Kind: api.EntryNoop} }

// By answers the entry as one of a term, by a session's request of that number.
func By(e api.Entry, term, session, number int) api.Entry {
	e.Term, e.Session, e.Number = term, session, number
	return e
}

// AlikeEntries tells whether all fields of a and b are the same.
func AlikeEntries(a, b api.Entry) bool {
	return a.Term == b.Term && a.Kind == b.Kind && a.Coll == b.Coll && a.To == b.To && Alike(a.Id, b.Id) && Alike(a.Doc, b.Doc) && AlikeDeltas(a.Deltas, b.Deltas) && a.Session == b.Session && a.Number == b.Number
}

// RoomyEntry answers the same entry in lists of its own that have more room, in which something lies.
func RoomyEntry(e api.Entry) api.Entry {
	e.Id, e.Doc, e.Deltas = Roomy(e.Id), Roomy(e.Doc), RoomyDeltas(e.Deltas)
	return e
}

// UntouchedEntry tells whether e is still what RoomyEntry made of was, its spare room too.
func UntouchedEntry(e, was api.Entry) bool {
	return Untouched(e.Id, was.Id) && Untouched(e.Doc, was.Doc) && UntouchedDeltas(e.Deltas, was.Deltas)
}

// SpoilEntry changes all that the entry's lists hold, their spare room too.
func SpoilEntry(e api.Entry) {
	Spoil(e.Id)
	Spoil(e.Doc)
	SpoilDeltas(e.Deltas)
}
