package sample

import (
	"slices"
	"strings"

	"tributary/api"
)

// Set answers a change that sets v at a path, whose steps stand between the points of p.
func Set(p string, v api.Value) api.Delta {
	return api.Delta{Kind: api.DeltaSet, Path: strings.Split(p, "."), Value: v}
}

// Drop answers a change that drops what lies at a path.
func Drop(p string) api.Delta { return api.Delta{Kind: api.DeltaDrop, Path: strings.Split(p, ".")} }

// Cut answers a change that cuts an array.
func Cut(p string, n int) api.Delta {
	return api.Delta{Kind: api.DeltaCut, Path: strings.Split(p, "."), N: n}
}

// AlikeDeltas tells whether all fields of the changes are the same.
func AlikeDeltas(a, b []api.Delta) bool {
	return slices.EqualFunc(a, b, func(c, d api.Delta) bool {
		return c.Kind == d.Kind && c.N == d.N && slices.Equal(c.Path, d.Path) && Alike(c.Value, d.Value)
	})
}

// RoomyDeltas answers the same changes in lists of their own that have more room, in which something lies.
func RoomyDeltas(l []api.Delta) []api.Delta {
	var out []api.Delta
	for _, d := range l {
		d.Path, d.Value = RoomySteps(d.Path), Roomy(d.Value)
		out = append(out, d)
	}
	return append(out, Drop("room"), Drop("room"))[:len(l)]
}

// UntouchedDeltas tells whether l is still what RoomyDeltas made of was, its spare room too.
func UntouchedDeltas(l, was []api.Delta) bool {
	return AlikeDeltas(fullDeltas(l), fullDeltas(RoomyDeltas(was)))
}

// SpoilDeltas changes all that the changes' lists hold, their spare room too.
func SpoilDeltas(l []api.Delta) {
	for _, d := range l[:cap(l)] {
		Spoil(d.Value)
		clear(d.Path[:cap(d.Path)])
	}
	clear(l[:cap(l)])
}

// fullDeltas answers l with what lies in the room behind its lists.
func fullDeltas(l []api.Delta) []api.Delta {
	l = slices.Clone(l[:cap(l)])
	for i, d := range l {
		l[i].Path, l[i].Value = d.Path[:cap(d.Path)], Full(d.Value)
	}
	return l
}
