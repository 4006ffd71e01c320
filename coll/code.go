package coll

import (
	"tributary/api"
	"tributary/codec"
	"tributary/entry"
	"tributary/parts"
	"tributary/value"
	"tributary/varint"
)

// Code answers the database's code.
func (d *DB) Code() []byte {
	if !d.made() {
		return nil
	}
	b := parts.PutCounts(nil, len(d.colls))
	for _, name := range d.Names() {
		l := d.colls[name]
		b = parts.PutCounts(append(b, varint.Text(name)...), len(l))
		for v := range l.all() {
			code, _ := codec.Encode(v)
			b = append(b, code...)
		}
	}
	return b
}

// Read answers the database whose code comes next; if there is none, s is bad.
func Read(s *varint.Source) *DB {
	d, last := New(), ""
	for range s.Count(api.MaxColls) {
		name := s.Text(api.MaxName)
		if !entry.Name(name) || name <= last {
			s.Spoil()
		}
		d.colls[name], last = readDocs(s), name
		if s.Bad() {
			return nil
		}
	}
	if s.Bad() {
		return nil
	}
	return d
}

// readDocs answers the documents of a collection whose code comes next; if there are none, s is bad.
func readDocs(s *varint.Source) docs {
	var l docs
	for range s.Count(api.MaxDocs) {
		x, e := docOf(codec.Read(s))
		if e != api.OK || len(l) > 0 && value.Compare(l[len(l)-1].id, x.id) >= 0 {
			s.Spoil()
		}
		if s.Bad() {
			return nil
		}
		l = append(l, x)
	}
	return l
}
