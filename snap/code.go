package snap

import (
	"maps"
	"slices"

	"tributary/api"
	"tributary/coll"
	"tributary/image"
	"tributary/parts"
	"tributary/varint"
)

// Code answers a snapshot of the state.
func (x *State) Code() []byte {
	if !x.made() {
		return nil
	}
	b := parts.PutCounts(nil, x.index, x.term)
	b = append(b, x.images.Code()...)
	b = parts.PutCounts(b, len(x.last))
	for _, session := range slices.Sorted(maps.Keys(x.last)) {
		b = parts.PutCounts(b, session, x.last[session])
	}
	return append(b, x.db.Code()...)
}

// Load answers the state of which b is a snapshot.
func Load(b []byte) (*State, api.Errno) {
	s, x := varint.From(b), &State{}
	x.index = s.Count(api.MaxTerm)
	x.term = s.Count(api.MaxTerm)
	x.images = image.Read(s)
	x.last = readLast(s)
	x.db = coll.Read(s)
	if s.Done() != api.OK || x.images.Top() != x.index || (x.index == 0) != (x.term == 0) {
		return nil, api.ErrCode
	}
	return x, api.OK
}

// readLast answers the sessions' numbers whose codes come next; if there are none, s is bad.
func readLast(s *varint.Source) map[int]int {
	last, before := map[int]int{}, 0
	for range s.Count(api.MaxSession) {
		session := s.Count(api.MaxSession)
		number := s.Count(api.MaxNumber)
		if session <= before || number == 0 {
			s.Spoil()
		}
		last[session], before = number, session
	}
	return last
}
