package sample

import (
	"slices"
	"strings"

	"tributary/api"
)

// Op answers an operator with a value, at a path whose steps stand between the points of p.
func Op(kind int, p string, v api.Value) api.Op {
	return api.Op{Kind: kind, Path: strings.Split(p, "."), Value: v}
}

// Unset answers an operator that drops what lies at a path.
func Unset(p string) api.Op { return Op(api.OpUnset, p, api.Value{}) }

// Rename answers an operator that takes what lies at a path to another one.
func Rename(p, to string) api.Op {
	return api.Op{Kind: api.OpRename, Path: strings.Split(p, "."), To: strings.Split(to, ".")}
}

// Ops answers an update by operators.
func Ops(l ...api.Op) api.Spec { return api.Spec{Ops: l} }

// Replace answers an update that puts a document in the place of one.
func Replace(doc api.Value) api.Spec { return api.Spec{Replace: true, Doc: doc} }

// AlikeSpecs tells whether all fields of a and b are the same.
func AlikeSpecs(a, b api.Spec) bool {
	return a.Replace == b.Replace && Alike(a.Doc, b.Doc) && slices.EqualFunc(a.Ops, b.Ops, func(o, p api.Op) bool {
		return o.Kind == p.Kind && slices.Equal(o.Path, p.Path) && Alike(o.Value, p.Value) && slices.Equal(o.To, p.To)
	})
}

// RoomySpec answers the same update in lists of its own that have more room, in which something lies.
func RoomySpec(s api.Spec) api.Spec {
	var out []api.Op
	for _, o := range s.Ops {
		o.Path, o.Value, o.To = RoomySteps(o.Path), Roomy(o.Value), RoomySteps(o.To)
		out = append(out, o)
	}
	s.Doc, s.Ops = Roomy(s.Doc), append(out, Unset("room"), Unset("room"))[:len(s.Ops)]
	return s
}

// UntouchedSpec tells whether s is still what RoomySpec made of was, its spare room too.
func UntouchedSpec(s, was api.Spec) bool {
	return AlikeSpecs(fullSpec(s), fullSpec(RoomySpec(was)))
}

// SpoilSpec changes all that the update's lists hold, their spare room too.
func SpoilSpec(s api.Spec) {
	Spoil(s.Doc)
	for _, o := range s.Ops[:cap(s.Ops)] {
		Spoil(o.Value)
		clear(o.Path[:cap(o.Path)])
		clear(o.To[:cap(o.To)])
	}
	clear(s.Ops[:cap(s.Ops)])
}

// fullSpec answers s with what lies in the room behind its lists.
func fullSpec(s api.Spec) api.Spec {
	s.Doc, s.Ops = Full(s.Doc), slices.Clone(s.Ops[:cap(s.Ops)])
	for i, o := range s.Ops {
		s.Ops[i].Path, s.Ops[i].Value, s.Ops[i].To = o.Path[:cap(o.Path)], Full(o.Value), o.To[:cap(o.To)]
	}
	return s
}
