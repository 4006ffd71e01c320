package sample

import (
	"bytes"

	"tributary/api"
)

// AlikeEvents tells whether all fields of a and b are the same.
func AlikeEvents(a, b api.Event) bool {
	return a.Kind == b.Kind && a.Index == b.Index && a.Term == b.Term && a.Coll == b.Coll && a.To == b.To &&
		Alike(a.Id, b.Id) && AlikeDeltas(a.Deltas, b.Deltas) && Alike(a.Pre, b.Pre) && a.Had == b.Had && Alike(a.Post, b.Post) && a.Has == b.Has && bytes.Equal(a.Token, b.Token)
}

// RoomyEvent answers the same event in lists of its own that have more room, in which something lies.
func RoomyEvent(v api.Event) api.Event {
	v.Id, v.Deltas, v.Pre, v.Post, v.Token = Roomy(v.Id), RoomyDeltas(v.Deltas), Roomy(v.Pre), Roomy(v.Post), RoomyBytes(v.Token)
	return v
}

// UntouchedEvent tells whether v is still what RoomyEvent made of was, its spare room too.
func UntouchedEvent(v, was api.Event) bool {
	return Untouched(v.Id, was.Id) && UntouchedDeltas(v.Deltas, was.Deltas) && Untouched(v.Pre, was.Pre) && Untouched(v.Post, was.Post) && UntouchedBytes(v.Token, was.Token)
}

// SpoilEvent changes all that the event's lists hold, their spare room too.
func SpoilEvent(v api.Event) {
	Spoil(v.Id)
	SpoilDeltas(v.Deltas)
	Spoil(v.Pre)
	Spoil(v.Post)
	clear(v.Token[:cap(v.Token)])
}
