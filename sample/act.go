package sample

import (
	"bytes"
	"slices"

	"tributary/api"
)

// AlikeAsks tells whether all fields of a and b are the same.
func AlikeAsks(a, b api.Ask) bool {
	return a.Kind == b.Kind && a.Coll == b.Coll && a.To == b.To && Alike(a.Id, b.Id) && Alike(a.Doc, b.Doc) && AlikeSpecs(a.Spec, b.Spec) && a.Session == b.Session && a.Number == b.Number
}

// AlikeFilters tells whether all fields of a and b are the same.
func AlikeFilters(a, b api.Filter) bool {
	return a.Coll == b.Coll && slices.Equal(a.Path, b.Path) && a.Kinds == b.Kinds
}

// AlikeActs tells whether all fields of a and b are the same.
func AlikeActs(a, b api.Act) bool {
	return a.Kind == b.Kind && a.Node == b.Node && a.N == b.N && a.M == b.M && a.Cursor == b.Cursor &&
		AlikeAsks(a.Ask, b.Ask) && AlikeFilters(a.Filter, b.Filter) && bytes.Equal(a.Token, b.Token) && slices.Equal(a.Keep, b.Keep)
}

// AlikeTold tells whether all fields of a and b are the same.
func AlikeTold(a, b api.Told) bool {
	return a.Code == b.Code && slices.Equal(a.Nodes, b.Nodes) && slices.EqualFunc(a.Answers, b.Answers, AlikeAnswers) && slices.EqualFunc(a.Events, b.Events, AlikeEvents)
}

// RoomyAct answers the same step in lists of its own that have more room, in which something lies.
func RoomyAct(a api.Act) api.Act {
	a.Ask, a.Filter.Path, a.Token = RoomyAsk(a.Ask), RoomySteps(a.Filter.Path), RoomyBytes(a.Token)
	a.Keep = append(append([]api.Keep(nil), a.Keep...), api.Keep{Name: "room"}, api.Keep{Name: "room"})[:len(a.Keep)]
	return a
}

// UntouchedAct tells whether a is still what RoomyAct made of was, its spare room too.
func UntouchedAct(a, was api.Act) bool {
	room := RoomyAct(was)
	return AlikeActs(a, was) && UntouchedAsk(a.Ask, was.Ask) && UntouchedBytes(a.Token, was.Token) &&
		slices.Equal(a.Filter.Path[:cap(a.Filter.Path)], room.Filter.Path[:cap(room.Filter.Path)]) &&
		slices.Equal(a.Keep[:cap(a.Keep)], room.Keep[:cap(room.Keep)])
}

// SpoilAct changes all that the step's lists hold, their spare room too.
func SpoilAct(a api.Act) {
	SpoilAsk(a.Ask)
	clear(a.Filter.Path[:cap(a.Filter.Path)])
	clear(a.Token[:cap(a.Token)])
	clear(a.Keep[:cap(a.Keep)])
}

// SpoilTold changes all that the lists of what was shown hold, their spare room too.
func SpoilTold(t api.Told) {
	for _, a := range t.Answers {
		Spoil(a.Value)
	}
	for _, v := range t.Events {
		SpoilEvent(v)
	}
	clear(t.Nodes[:cap(t.Nodes)])
	clear(t.Answers[:cap(t.Answers)])
	clear(t.Events[:cap(t.Events)])
}
