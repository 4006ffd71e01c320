package coll

import (
	"slices"

	"tributary/api"
	"tributary/parts"
	"tributary/path"
	"tributary/tree"
	"tributary/value"
)

// mostSkip is how many documents a query passes over, at most.
const mostSkip = 1 << 30

// Select answers what q tells of a collection.
func (d *DB) Select(name string, q api.Query) ([]api.Value, api.Errno) {
	l, e := d.find(name)
	switch {
	case e != api.OK:
		return nil, e
	case !mayQuery(q):
		return nil, api.ErrCond
	}
	found := l.matching(q.Cond)
	if len(q.Sort) > 0 {
		found = sorted(found, q.Sort)
	}
	if q.Down {
		slices.Reverse(found)
	}
	found = found[min(q.Skip, len(found)):]
	return parts.CopyEach(found[:min(q.Most, len(found))], value.Clone), api.OK
}

// Count answers of how many documents of a collection c holds.
func (d *DB) Count(name string, c api.Cond) (int, api.Errno) {
	l, e := d.find(name)
	switch {
	case e != api.OK:
		return 0, e
	case !mayAsk(c):
		return 0, api.ErrCond
	}
	return len(l.matching(c)), api.OK
}

// mayQuery tells whether q may be.
func mayQuery(q api.Query) bool {
	return mayAsk(q.Cond) && (len(q.Sort) == 0 || path.May(q.Sort)) && q.Skip >= 0 && q.Skip <= mostSkip && q.Most >= 1 && q.Most <= api.MaxDocs
}

// matching answers the documents of which c holds, by rising ids.
func (l docs) matching(c api.Cond) []api.Value {
	var found []api.Value
	for v := range l.all() {
		if holds(v, c) {
			found = append(found, v)
		}
	}
	return found
}

// sorted answers the documents l by what lies at p, and those that have the same there as they are in l.
func sorted(l []api.Value, p []string) []api.Value {
	type keyed struct{ key, whole api.Value }
	var found []keyed
	for _, v := range l {
		// The key of a document that has nothing there is {}, which comes ahead of all values.
		key, _ := tree.Get(v, p)
		found = append(found, keyed{key, v})
	}
	slices.SortStableFunc(found, func(a, b keyed) int { return value.Compare(a.key, b.key) })
	for i, x := range found {
		l[i] = x.whole
	}
	return l
}
