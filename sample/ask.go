package sample

import "tributary/api"

// AskInsert answers a request to insert a document.
func AskInsert(coll string, doc api.Value) api.Ask {
	return api.Ask{Kind: api.AskInsert, Coll: coll, Doc: doc}
}

// AskUpdate answers a request to change a document.
func AskUpdate(coll string, id api.Value, s api.Spec) api.Ask {
	return api.Ask{Kind: api.AskUpdate, Coll: coll, Id: id, Spec: s}
}

// AskUpsert answers a request to change a document, or to insert it.
func AskUpsert(coll string, id api.Value, s api.Spec) api.Ask {
	return api.Ask{Kind: api.AskUpsert, Coll: coll, Id: id, Spec: s}
}

// AskDelete answers a request to delete a document.
func AskDelete(coll string, id api.Value) api.Ask {
	return api.Ask{Kind: api.AskDelete, Coll: coll, Id: id}
}

// AskCreate answers a request to make a collection.
func AskCreate(coll string) api.Ask { return api.Ask{Kind: api.AskCreate, Coll: coll} }

// AskDrop answers a request to drop a collection.
func AskDrop(coll string) api.Ask { return api.Ask{Kind: api.AskDrop, Coll: coll} }

// AskRename answers a request to give a collection another name.
func AskRename(coll, to string) api.Ask {
	return api.Ask{Kind: api.AskRename, Coll: coll, To: to}
}

// AskBy answers the request as a session's one of that number.
func AskBy(a api.Ask, session, number int) api.Ask {
	a.Session, a.Number = session, number
	return a
}

// RoomyAsk answers the same request in lists of its own that have more room, in which something lies.
func RoomyAsk(a api.Ask) api.Ask {
	a.Id, a.Doc, a.Spec = Roomy(a.Id), Roomy(a.Doc), RoomySpec(a.Spec)
	return a
}

// UntouchedAsk tells whether a is still what RoomyAsk made of was, its spare room too.
func UntouchedAsk(a, was api.Ask) bool {
	return Untouched(a.Id, was.Id) && Untouched(a.Doc, was.Doc) && UntouchedSpec(a.Spec, was.Spec)
}

// SpoilAsk changes all that the request's lists hold, their spare room too.
func SpoilAsk(a api.Ask) {
	Spoil(a.Id)
	Spoil(a.Doc)
	SpoilSpec(a.Spec)
}

// Ask answers a request, mostly of what there is, from few names and ids, and these updates.
func (c *Chance) Ask(all []api.Spec) api.Ask {
	names := func() string { return []string{"c", "d", "e", "f", "$", ""}[c.Below(4+2*c.Below(8)/7)] }
	ids := []api.Value{Null(), Number(1), Number(2), Text("t"), Array(Null()), One("k", Null()), Deep(7), {}}
	a := api.Ask{Kind: 1 + c.Below(4), Coll: names(), To: names(), Id: ids[c.Below(6+2*c.Below(5)/4)], Session: 1 + c.Below(3), Number: 1 + c.Below(9)}
	if c.Below(5) == 0 {
		a.Kind = 5 + c.Below(3)
	}
	a.Doc, a.Spec = Item(a.Id, []api.Value{Null(), Number(5), Array(Null()), Deep(7)}[c.Below(4)]), all[c.Below(len(all))]
	if c.Below(20) == 0 {
		a.Doc = One("a", Null())
	}
	return a
}
