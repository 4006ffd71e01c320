// Package sample makes values, changes, updates, requests, entries, events, messages and conditions for the tests of all layers, and tells whether they are alike and whether their memory was touched. It calls no layer, so that it says nothing because one of them does.
package sample

import (
	"slices"

	"tributary/api"
)

// Null answers null.
func Null() api.Value { return api.Value{Kind: api.KindNull} }

// Number answers a number.
func Number(x int) api.Value { return api.Value{Kind: api.KindInt, Int: x} }

// Text answers a text.
func Text(s string) api.Value { return api.Value{Kind: api.KindText, Text: s} }

// Bytes answers bytes.
func Bytes(s string) api.Value { return api.Value{Kind: api.KindBytes, Text: s} }

// Array answers an array that has the list l itself.
func Array(l ...api.Value) api.Value { return api.Value{Kind: api.KindArray, Items: l} }

// Doc answers a document that has the lists themselves, whether it may be or not.
func Doc(names []string, l ...api.Value) api.Value {
	return api.Value{Kind: api.KindDoc, Names: names, Items: l}
}

// One answers a document of one item.
func One(name string, v api.Value) api.Value { return Doc([]string{name}, v) }

// Item answers a document of an id, and perhaps an item a.
func Item(id api.Value, a ...api.Value) api.Value {
	return Doc([]string{api.IdName, "a"}[:1+len(a)], append([]api.Value{id}, a...)...)
}

// Within answers v laid at the steps p, in documents of one item each.
func Within(v api.Value, p ...string) api.Value {
	for _, step := range slices.Backward(p) {
		v = One(step, v)
	}
	return v
}

// Levels answers v in so many lists, arrays and documents by turns.
func Levels(v api.Value, levels int) api.Value {
	for i := range levels {
		if i%2 == 0 {
			v = Array(v)
		} else {
			v = One("a", v)
		}
	}
	return v
}

// Deep answers null within so many arrays.
func Deep(levels int) api.Value {
	v := Null()
	for range levels {
		v = Array(v)
	}
	return v
}

// Alike tells whether all fields of a and b are the same; nil is as the empty list.
func Alike(a, b api.Value) bool {
	return a.Kind == b.Kind && a.Int == b.Int && a.Text == b.Text && slices.Equal(a.Names, b.Names) && slices.EqualFunc(a.Items, b.Items, Alike)
}

// None tells whether v is the zero value.
func None(v api.Value) bool { return Alike(v, api.Value{}) }

// Roomy answers v with lists of its own that have more room, in which something lies.
func Roomy(v api.Value) api.Value {
	var items []api.Value
	for _, x := range v.Items {
		items = append(items, Roomy(x))
	}
	v.Items = append(items, Text("room"), Text("room"))[:len(v.Items)]
	v.Names = RoomySteps(v.Names)
	return v
}

// RoomySteps answers the same texts in a list that has more room, in which something lies.
func RoomySteps(l []string) []string {
	return append(append([]string(nil), l...), "room", "room")[:len(l)]
}

// Full answers v with what lies in the room behind its lists.
func Full(v api.Value) api.Value {
	v.Items, v.Names = slices.Clone(v.Items[:cap(v.Items)]), v.Names[:cap(v.Names)]
	for i := range v.Items {
		v.Items[i] = Full(v.Items[i])
	}
	return v
}

// Untouched tells whether v is still what Roomy made of was, its spare room too.
func Untouched(v, was api.Value) bool { return Alike(Full(v), Full(Roomy(was))) }

// Spoil changes all that the lists of v hold, their spare room too.
func Spoil(v api.Value) {
	for _, x := range v.Items[:cap(v.Items)] {
		Spoil(x)
	}
	clear(v.Items[:cap(v.Items)])
	clear(v.Names[:cap(v.Names)])
}
