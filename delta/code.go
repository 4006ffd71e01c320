package delta

import (
	"tributary/api"
	"tributary/codec"
	"tributary/parts"
	"tributary/varint"
)

// Put answers b with the code of l behind it, if l is a list of changes.
func Put(b []byte, l []api.Delta) []byte {
	// A copy, so that the room behind b stays as it is.
	out := append([]byte(nil), b...)
	if Check(l) != api.OK {
		return out
	}
	out = parts.PutCounts(out, len(l))
	for _, d := range l {
		out = put(out, d)
	}
	return out
}

// Read answers the list whose code comes next; if there is none, s is bad.
func Read(s *varint.Source) []api.Delta {
	var l []api.Delta
	for range s.Count(api.MaxDeltas) {
		l = append(l, read(s))
		if s.Bad() {
			return nil
		}
	}
	if Check(l) != api.OK {
		s.Spoil()
		return nil
	}
	return l
}

// put answers b with the code of d behind it, which may be.
func put(b []byte, d api.Delta) []byte {
	b = parts.PutPath(append(b, byte(d.Kind)), d.Path)
	switch d.Kind {
	case api.DeltaSet:
		code, _ := codec.Encode(d.Value)
		return append(b, code...)
	case api.DeltaCut:
		return parts.PutCounts(b, d.N)
	}
	return b
}

// read answers the change whose code comes next, whether it may be or not.
func read(s *varint.Source) api.Delta {
	d := api.Delta{Kind: s.Byte()}
	d.Path = parts.ReadPath(s)
	switch d.Kind {
	case api.DeltaSet:
		d.Value = codec.Read(s)
	case api.DeltaCut:
		d.N = s.Count(api.MaxIndex)
	}
	return d
}
