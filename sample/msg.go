package sample

import (
	"bytes"

	"tributary/api"
)

// Msg answers a message of a term from one node to another one, without more.
func Msg(kind, from, to, term int) api.Msg {
	return api.Msg{Kind: kind, From: from, To: to, Term: term}
}

// AlikeMsgs tells whether all fields of a and b are the same.
func AlikeMsgs(a, b api.Msg) bool {
	return a.Kind == b.Kind && a.From == b.From && a.To == b.To && a.Term == b.Term && a.Index == b.Index && a.LogTerm == b.LogTerm && a.Commit == b.Commit && a.Round == b.Round &&
		a.Ok == b.Ok && AlikeLogs(a.Entries, b.Entries) && bytes.Equal(a.Snap, b.Snap)
}

// RoomyMsg answers the same message in lists of its own that have more room, in which something lies.
func RoomyMsg(m api.Msg) api.Msg {
	m.Entries, m.Snap = RoomyLog(m.Entries), RoomyBytes(m.Snap)
	return m
}

// UntouchedMsg tells whether m is still what RoomyMsg made of was, its spare room too.
func UntouchedMsg(m, was api.Msg) bool {
	return AlikeMsgs(m, was) && UntouchedLog(m.Entries, was.Entries) && UntouchedBytes(m.Snap, was.Snap)
}

// SpoilMsg changes all that the message's lists hold, their spare room too.
func SpoilMsg(m api.Msg) {
	SpoilLog(m.Entries)
	clear(m.Snap[:cap(m.Snap)])
}
