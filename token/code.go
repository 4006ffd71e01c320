package token

import (
	"bytes"

	"tributary/api"
	"tributary/frame"
	"tributary/parts"
	"tributary/varint"
)

// Encode answers the code of t, which must be a token that may be.
func Encode(t api.Token) ([]byte, api.Errno) {
	if !May(t) {
		return nil, api.ErrToken
	}
	b := parts.PutCounts([]byte{byte(t.Kind)}, t.Index, t.Term)
	sum := parts.SumBytes(frame.Sum(b))
	return append(b, sum[:]...), api.OK
}

// Decode answers the token whose code b is.
func Decode(b []byte) (api.Token, api.Errno) {
	s := varint.From(b)
	t := api.Token{Kind: s.Byte()}
	t.Index = s.Count(api.MaxTerm)
	t.Term = s.Count(api.MaxTerm)
	// The sum is right, and nothing is missing or too much, if b is just what t is encoded as.
	code, e := Encode(t)
	if e != api.OK || !bytes.Equal(code, b) {
		return api.Token{}, api.ErrToken
	}
	return t, api.OK
}
