package image

import (
	"tributary/api"
	"tributary/codec"
	"tributary/parts"
	"tributary/varint"
)

// What stands in a code for an index: that there was no document, or that one follows.
const (
	markNone = 0
	markHere = 1
)

// Code answers the images' code.
func (m *Images) Code() []byte {
	if m == nil {
		return nil
	}
	b := parts.PutCounts(nil, m.keep, m.base, m.top)
	for i := m.first(); i <= m.top; i++ {
		b = putKept(b, m.ring[m.place(i)])
	}
	return b
}

// putKept answers b with what the ring keeps of an index behind it; as append does, it uses the room behind b.
func putKept(b []byte, v *api.Value) []byte {
	if v == nil {
		return append(b, markNone)
	}
	code, _ := codec.Encode(*v)
	return append(append(b, markHere), code...)
}

// Read answers the images whose code comes next; if there are none, s is bad.
func Read(s *varint.Source) *Images {
	m := &Images{}
	m.keep = s.Count(api.MaxKeep)
	m.base = s.Count(api.MaxTerm)
	top := s.Count(api.MaxTerm)
	if top < m.base {
		s.Spoil()
	}
	// Of those below nothing is known, nor stands in the code.
	m.top = max(m.base, top-m.keep)
	for m.top < top && !s.Bad() {
		m.Note(readKept(s))
	}
	if s.Bad() {
		return nil
	}
	return m
}

// readKept answers the document that comes next, and whether there was one; if neither is said, s is bad.
func readKept(s *varint.Source) (api.Value, bool) {
	switch s.Byte() {
	case markNone:
		return api.Value{}, false
	case markHere:
		return codec.Read(s), true
	}
	s.Spoil()
	return api.Value{}, false
}
