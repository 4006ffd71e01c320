package entry

import (
	"tributary/api"
	"tributary/codec"
	"tributary/delta"
	"tributary/parts"
	"tributary/varint"
)

// Encode answers the code of e, which must be an entry that may be.
func Encode(e api.Entry) ([]byte, api.Errno) {
	if !May(e) {
		return nil, api.ErrArg
	}
	return put(e), api.OK
}

// Decode answers the entry whose code b is.
func Decode(b []byte) (api.Entry, api.Errno) {
	s := varint.From(b)
	made := Read(s)
	if e := s.Done(); e != api.OK {
		return api.Entry{}, e
	}
	return made, api.OK
}

// Read answers the entry whose code comes next; if there is none, s is bad.
func Read(s *varint.Source) api.Entry {
	e := read(s)
	if s.Bad() || !May(e) {
		s.Spoil()
		return api.Entry{}
	}
	return e
}

// put answers the code of e, which may be.
func put(e api.Entry) []byte {
	b := append(parts.PutCounts(nil, e.Term), byte(e.Kind))
	b = parts.PutCounts(b, e.Session, e.Number)
	l, _ := fieldsOf(e.Kind)
	if l.has(coll) {
		b = append(b, varint.Text(e.Coll)...)
	}
	if l.has(to) {
		b = append(b, varint.Text(e.To)...)
	}
	if l.has(id) {
		b = codec.Put(b, e.Id)
	}
	if l.has(doc) {
		b = codec.Put(b, e.Doc)
	}
	if l.has(deltas) {
		b = delta.Put(b, e.Deltas)
	}
	return b
}

// read answers what comes next, whether it is an entry that may be or not.
func read(s *varint.Source) api.Entry {
	e := api.Entry{Term: s.Count(api.MaxTerm)}
	e.Kind = s.Byte()
	e.Session = s.Count(api.MaxSession)
	e.Number = s.Count(api.MaxNumber)
	l, _ := fieldsOf(e.Kind)
	if l.has(coll) {
		e.Coll = s.Text(api.MaxName)
	}
	if l.has(to) {
		e.To = s.Text(api.MaxName)
	}
	if l.has(id) {
		e.Id = codec.Read(s)
	}
	if l.has(doc) {
		e.Doc = codec.Read(s)
	}
	if l.has(deltas) {
		e.Deltas = delta.Read(s)
	}
	return e
}
