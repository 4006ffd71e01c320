package spec

import (
	"tributary/api"
	"tributary/codec"
	"tributary/parts"
	"tributary/varint"
)

// The byte with which an update's code begins.
const (
	opsMark = iota
	replaceMark
)

// Put answers b with the code of s behind it, if s is an update.
func Put(b []byte, s api.Spec) []byte {
	// A copy, so that the room behind b stays as it is.
	out := append([]byte(nil), b...)
	switch {
	case Check(s) != api.OK:
		return out
	case s.Replace:
		return putValue(append(out, replaceMark), s.Doc)
	}
	out = parts.PutCounts(append(out, opsMark), len(s.Ops))
	for _, o := range s.Ops {
		out = put(out, o)
	}
	return out
}

// Read answers the update whose code comes next; if there is none, s is bad.
func Read(s *varint.Source) api.Spec {
	made := read(s)
	if s.Bad() || Check(made) != api.OK {
		s.Spoil()
		return api.Spec{}
	}
	return made
}

// put answers b with the code of o behind it, which may be.
func put(b []byte, o api.Op) []byte {
	b = parts.PutPath(append(b, byte(o.Kind)), o.Path)
	switch o.Kind {
	case api.OpUnset:
		return b
	case api.OpRename:
		return parts.PutPath(b, o.To)
	}
	return putValue(b, o.Value)
}

// putValue answers b with the code of v behind it, which is whole.
func putValue(b []byte, v api.Value) []byte {
	code, _ := codec.Encode(v)
	return append(b, code...)
}

// read answers what comes next, whether it is an update or not.
func read(s *varint.Source) api.Spec {
	switch s.Byte() {
	case opsMark:
		return api.Spec{Ops: readOps(s)}
	case replaceMark:
		return api.Spec{Replace: true, Doc: codec.Read(s)}
	}
	return api.Spec{}
}

// readOps answers the operators whose code comes next, whether they may be or not.
func readOps(s *varint.Source) []api.Op {
	var l []api.Op
	for range s.Count(api.MaxOps) {
		l = append(l, readOp(s))
	}
	return l
}

// readOp answers the operator whose code comes next, whether it may be or not.
func readOp(s *varint.Source) api.Op {
	o := api.Op{Kind: s.Byte()}
	o.Path = parts.ReadPath(s)
	switch o.Kind {
	case api.OpUnset:
	case api.OpRename:
		o.To = parts.ReadPath(s)
	default:
		o.Value = codec.Read(s)
	}
	return o
}
