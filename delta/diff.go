package delta

import (
	"cmp"
	"slices"
	"strconv"

	"tributary/api"
	"tributary/path"
	"tributary/value"
)

// Diff answers what changes the document a into b.
func Diff(a, b api.Value) ([]api.Delta, api.Errno) {
	if !whole(a) || !whole(b) {
		return nil, api.ErrValue
	}
	d := differ{}
	d.docs(nil, a, b)
	switch {
	case d.fault != api.OK:
		return nil, d.fault
	case len(d.changes) > api.MaxDeltas:
		return nil, api.ErrLong
	}
	return d.changes, api.OK
}

// whole tells whether v is a whole document.
func whole(v api.Value) bool {
	return v.Kind == api.KindDoc && value.Check(v) == api.OK
}

// differ gathers changes. It goes on behind a fault, and behind as many changes as there may be: a fault further on is told ahead of too many.
type differ struct {
	changes []api.Delta
	fault   api.Errno
}

// docs gathers what changes the document a into b, which lie at the path p.
func (d *differ) docs(p []string, a, b api.Value) {
	for _, name := range a.Names {
		if !slices.Contains(b.Names, name) {
			d.add(api.DeltaDrop, d.behind(p, name), api.Value{}, 0)
		}
	}
	for i, name := range b.Names {
		at := d.behind(p, name)
		if k := slices.Index(a.Names, name); k >= 0 {
			d.item(at, a.Items[k], b.Items[i])
		} else {
			d.add(api.DeltaSet, at, b.Items[i], 0)
		}
	}
}

// item gathers what changes x into y, which lie at the path p.
func (d *differ) item(p []string, x, y api.Value) {
	switch {
	case x.Kind == api.KindDoc && y.Kind == api.KindDoc:
		d.docs(p, x, y)
	case x.Kind == api.KindArray && y.Kind == api.KindArray:
		d.arrays(p, x.Items, y.Items)
	case !value.Same(x, y):
		d.add(api.DeltaSet, p, y, 0)
	}
}

// arrays gathers what changes the array x into y, which lie at the path p.
func (d *differ) arrays(p []string, x, y []api.Value) {
	if len(y) < len(x) {
		d.bound(len(y))
		d.add(api.DeltaCut, p, api.Value{}, len(y))
	}
	for i, item := range y {
		if i >= len(x) || !value.Same(x[i], item) {
			d.bound(i)
			d.add(api.DeltaSet, d.behind(p, strconv.Itoa(i)), item, 0)
		}
	}
}

// add gathers a change, of whose path nothing else is made.
func (d *differ) add(kind int, p []string, v api.Value, n int) {
	d.changes = append(d.changes, api.Delta{Kind: kind, Path: p, Value: value.Clone(v), N: n})
}

// behind answers the path of p and a step more.
func (d *differ) behind(p []string, step string) []string {
	longer, e := path.Join(p, step)
	d.fault = cmp.Or(d.fault, e)
	return longer
}

// bound notes a fault, if n is more than an index, or a length that is cut to, may be.
func (d *differ) bound(n int) {
	if n > api.MaxIndex {
		d.fault = api.ErrPath
	}
}
