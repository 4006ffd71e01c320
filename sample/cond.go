package sample

import (
	"slices"
	"strings"

	"tributary/api"
)

// Cond answers a condition of what lies at a path, whose steps stand between the points of p.
func Cond(kind int, p string, v api.Value) api.Cond {
	return api.Cond{Kind: kind, Path: strings.Split(p, "."), Value: v}
}

// Has answers the condition that something lies at a path.
func Has(p string) api.Cond { return Cond(api.CondHas, p, api.Value{}) }

// Conds answers a condition of others; it has the list l itself.
func Conds(kind int, l ...api.Cond) api.Cond { return api.Cond{Kind: kind, Of: l} }

// AlikeConds tells whether all fields of a and b are the same.
func AlikeConds(a, b api.Cond) bool {
	return a.Kind == b.Kind && slices.Equal(a.Path, b.Path) && Alike(a.Value, b.Value) && slices.EqualFunc(a.Of, b.Of, AlikeConds)
}

// RoomyCond answers the same condition in lists of its own that have more room, in which something lies.
func RoomyCond(c api.Cond) api.Cond {
	var of []api.Cond
	for _, x := range c.Of {
		of = append(of, RoomyCond(x))
	}
	c.Path, c.Value, c.Of = RoomySteps(c.Path), Roomy(c.Value), append(of, Has("room"), Has("room"))[:len(c.Of)]
	return c
}

// UntouchedCond tells whether c is still what RoomyCond made of was, its spare room too.
func UntouchedCond(c, was api.Cond) bool { return AlikeConds(fullCond(c), fullCond(RoomyCond(was))) }

// fullCond answers c with what lies in the room behind its lists.
func fullCond(c api.Cond) api.Cond {
	c.Path, c.Value, c.Of = c.Path[:cap(c.Path)], Full(c.Value), slices.Clone(c.Of[:cap(c.Of)])
	for i, x := range c.Of {
		c.Of[i] = fullCond(x)
	}
	return c
}
