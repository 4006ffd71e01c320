package sample

import (
	"slices"

	"tributary/api"
)

// AlikeLogs tells whether all fields of all entries are the same.
func AlikeLogs(a, b []api.Entry) bool { return slices.EqualFunc(a, b, AlikeEntries) }

// RoomyLog answers the same entries in lists of their own that have more room, in which something lies.
func RoomyLog(l []api.Entry) []api.Entry {
	var out []api.Entry
	for _, e := range l {
		out = append(out, RoomyEntry(e))
	}
	return append(out, Create("room"), Create("room"))[:len(l)]
}

// UntouchedLog tells whether l is still what RoomyLog made of was, its spare room too.
func UntouchedLog(l, was []api.Entry) bool {
	room := RoomyLog(was)
	return slices.EqualFunc(l, was, UntouchedEntry) && AlikeLogs(l[:cap(l)], room[:cap(room)])
}

// SpoilLog changes all that the entries' lists hold, their spare room too.
func SpoilLog(l []api.Entry) {
	for _, e := range l[:cap(l)] {
		SpoilEntry(e)
	}
	clear(l[:cap(l)])
}
