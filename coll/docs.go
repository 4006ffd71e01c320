package coll

import (
	"iter"
	"slices"

	"tributary/api"
	"tributary/tree"
	"tributary/value"
)

// doc is a document that stands in a collection, and its id.
type doc struct {
	id, whole api.Value
}

// docs are the documents of a collection, by rising ids. No list of these is ever changed, nor what is in it: databases that are forks share them.
type docs []*doc

// Insert puts a document into a collection.
func (d *DB) Insert(name string, v api.Value) api.Errno {
	l, x, e := d.ready(name, v)
	if e != api.OK {
		return e
	}
	i, there := l.place(x.id)
	switch {
	case there:
		return api.ErrTwice
	case len(l) == api.MaxDocs:
		return api.ErrFull
	}
	d.colls[name] = l.spliced(i, i, x)
	return api.OK
}

// Replace puts a document in the place of the one that has its id.
func (d *DB) Replace(name string, v api.Value) api.Errno {
	l, x, e := d.ready(name, v)
	if e != api.OK {
		return e
	}
	i, there := l.place(x.id)
	if !there {
		return api.ErrNone
	}
	d.colls[name] = l.spliced(i, i+1, x)
	return api.OK
}

// Delete takes the document of an id away.
func (d *DB) Delete(name string, id api.Value) api.Errno {
	l, i, e := d.locate(name, id)
	if e != api.OK {
		return e
	}
	d.colls[name] = l.spliced(i, i+1)
	return api.OK
}

// Find answers the document of an id.
func (d *DB) Find(name string, id api.Value) (api.Value, api.Errno) {
	l, i, e := d.locate(name, id)
	if e != api.OK {
		return api.Value{}, e
	}
	return value.Clone(l[i].whole), api.OK
}

// All goes over the documents of a collection, by rising ids.
func (d *DB) All(name string) iter.Seq[api.Value] {
	return func(yield func(api.Value) bool) {
		l, _ := d.find(name)
		for v := range l.all() {
			if !yield(value.Clone(v)) {
				return
			}
		}
	}
}

// ready answers the documents of a collection, and v as one that may stand among them.
func (d *DB) ready(name string, v api.Value) (docs, *doc, api.Errno) {
	l, e := d.find(name)
	if e != api.OK {
		return nil, nil, e
	}
	x, e := docOf(v)
	return l, x, e
}

// locate answers the documents of a collection, and where the one of that id stands.
func (d *DB) locate(name string, id api.Value) (docs, int, api.Errno) {
	l, e := d.find(name)
	if e != api.OK {
		return nil, 0, e
	}
	i, there := l.place(id)
	if !there {
		return nil, 0, api.ErrNone
	}
	return l, i, api.OK
}

// docOf answers v as a document that may stand in a collection.
func docOf(v api.Value) (*doc, api.Errno) {
	id, there := tree.Id(v)
	if !there || value.Check(v) != api.OK {
		return nil, api.ErrValue
	}
	return &doc{id: id, whole: value.Clone(v)}, api.OK
}

// place answers where the document of that id stands, or would stand, and whether it is there.
func (l docs) place(id api.Value) (int, bool) {
	return slices.BinarySearchFunc(l, id, func(x *doc, id api.Value) int { return value.Compare(x.id, id) })
}

// spliced answers l with more in the place of those from i on that are ahead of k.
func (l docs) spliced(i, k int, more ...*doc) docs {
	return slices.Concat(l[:i], more, l[k:])
}

// all goes over the documents, without copies of them.
func (l docs) all() iter.Seq[api.Value] {
	return func(yield func(api.Value) bool) {
		for _, x := range l {
			if !yield(x.whole) {
				return
			}
		}
	}
}
