package vote

import (
	"slices"

	"tributary/api"
	"tributary/frame"
	"tributary/varint"
)

// mostNode is the greatest number of a node that is voted for.
const mostNode = 63

// ballot is a term, and who is voted for in it.
type ballot struct{ term, node int }

// may tells whether b can be noted.
func (b ballot) may() bool {
	return b.term >= 0 && b.term <= api.MaxTerm && b.node >= api.NoNode && b.node <= mostNode
}

// mayFollow tells whether b is of a later term than a, or takes no vote back that was given in the same one.
func (b ballot) mayFollow(a ballot) bool {
	if b.term == a.term {
		return a.node == api.NoNode || a.node == b.node
	}
	return b.term > a.term
}

// code answers the frame of a ballot that can be noted.
func (b ballot) code() []byte {
	term, _ := varint.Count(b.term)
	code, _ := frame.Put(nil, slices.Concat(term, varint.Int(b.node)))
	return code
}

// read answers the ballot whose code a frame's body is.
func read(body []byte) (ballot, bool) {
	s := varint.From(body)
	term := s.Count(api.MaxTerm)
	b := ballot{term, s.Int()}
	return b, s.Done() == api.OK && b.may()
}

// lastOf answers the last ballot among frames' bodies; without one, nobody in term 0.
func lastOf(bodies [][]byte) ballot {
	for _, body := range slices.Backward(bodies) {
		if b, ok := read(body); ok {
			return b
		}
	}
	return ballot{0, api.NoNode}
}
