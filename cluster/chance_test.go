package cluster_test

import (
	"fmt"
	"testing"

	"tributary/api"
	"tributary/cluster"
	"tributary/sample"
)

// specs are updates, of which some can not be done where there are others.
func specs() []api.Spec {
	return []api.Spec{
		sample.Ops(sample.Op(api.OpInc, "a", sample.Number(3))), sample.Ops(sample.Op(api.OpSet, "b.c", sample.Null()), sample.Unset("a")), sample.Replace(sample.One("a", sample.Number(5))),
		sample.Ops(sample.Op(api.OpPush, "l", sample.Number(1))), sample.Ops(sample.Rename("a", "b")),
	}
}

// filters are of one collection or all, of paths, of kinds; one may not be.
func filters() []api.Filter {
	return []api.Filter{{}, {Coll: "c"}, {Coll: "d"}, {Coll: "e", Path: []string{"a"}}, {Path: []string{"b", "c"}}, {Coll: "c", Kinds: 1 << api.EntryInsert}, {Kinds: 1<<api.EntryUpdate | 1<<api.EntryDrop}, {Coll: "$"}}
}

// leaders are the nodes that think they lead, and perhaps others.
func (w *watch) leaders(c *sample.Chance) []int {
	var l []int
	for id := range w.c.Nodes() {
		if w.c.Status(id).Role == leader || c.Below(20) == 0 {
			l = append(l, id)
		}
	}
	return l
}

// anyAsk is a request of one of few sessions, perhaps one that was asked before.
func (w *watch) anyAsk(c *sample.Chance) api.Ask {
	session := 1 + c.Below(3)
	old := c.Below(3) == 0 && w.numbers[session] > 0
	a := c.Ask(specs())
	for c.Below(5) > 0 {
		// Mostly such as can be done.
		if _, e := w.states[len(w.history)].Lower(sample.AskBy(a, 1, 1)); e == api.OK {
			break
		}
		a = c.Ask(specs())
	}
	if !old {
		w.numbers[session]++
	}
	a.Session, a.Number = session, w.numbers[session]
	if c.Below(40) == 0 {
		// Mostly older than one that was done.
		a.Number = 1 + c.Below(a.Number)
	}
	if l := w.asked[[2]int{a.Session, a.Number}]; old && len(l) > 0 && c.Below(10) > 0 {
		return l[0].a
	}
	return a
}

// anyFind is a read of some document.
func (w *watch) anyFind(c *sample.Chance) api.Ask {
	a := c.Ask(specs())
	w.numbers[5]++
	return api.Ask{Coll: a.Coll, Id: a.Id, Session: 5, Number: w.numbers[5]}
}

// anyKeep is what a crash keeps of some files.
func anyKeep(c *sample.Chance) []api.Keep {
	var l []api.Keep
	for range c.Below(3) * 8 {
		name := []string{"vote", "vote.new", "snap.new", fmt.Sprintf("log%08d", 1+8*c.Below(12)), fmt.Sprintf("log%08d", 1+c.Below(99))}[c.Below(5)]
		l = append(l, api.Keep{Name: name, N: c.Below(80) - 5})
	}
	return l
}

// anyToken is a token that some event had, or such a one changed, or none.
func (w *watch) anyToken(c *sample.Chance) []byte {
	if len(w.tokens) == 0 || c.Below(12) == 0 {
		return []byte(c.Bytes(9))
	}
	b := w.tokens[len(w.tokens)-1-c.Below(min(len(w.tokens), 1+c.Below(200)))]
	if len(w.ends) > 0 && c.Below(8) == 0 {
		b = w.ends[len(w.ends)-1-c.Below(min(len(w.ends), 3))]
	}
	if c.Below(12) == 0 {
		return []byte(c.Change(string(b)))
	}
	return b
}

// any answers some steps by chance.
func (w *watch) any(c *sample.Chance) []api.Act {
	id, place := c.Below(w.c.Nodes()), c.Below(16)
	var l []api.Act
	switch n := c.Below(100); {
	case n < 12:
		for range 1 + c.Below(1+c.Below(8)) {
			l = append(l, at(api.ActTick, id))
		}
	case n < 60:
		l = append(l, api.Act{Kind: api.ActArrive, N: c.Below(1 + min(w.c.Bag(), 1+c.Below(16)))})
	case n < 66:
		l = append(l, api.Act{Kind: []int{api.ActCopy, api.ActLose}[n%2], N: c.Below(1 + w.c.Bag())})
	case n < 76:
		for _, id := range w.leaders(c) {
			l = append(l, api.Act{Kind: api.ActAsk, Node: id, Ask: w.anyAsk(c)})
		}
	case n < 80:
		for _, id := range w.leaders(c) {
			l = append(l, api.Act{Kind: api.ActFind, Node: id, Ask: w.anyFind(c)})
		}
	case n < 83:
		if c.Below(8) == 0 {
			l = append(l, at(api.ActCompact, id))
		}
	case n == 83 && c.Below(2) == 0:
		l = append(l, api.Act{Kind: api.ActStop, Node: id, N: c.Below(40) - 1, M: c.Below(40)})
	case n == 84 && c.Below(3) == 0:
		l = append(l, api.Act{Kind: api.ActCrash, Node: id, Keep: anyKeep(c)})
	case n == 85:
		l = append(l, at(api.ActBoot, id))
	case n < 88:
		if !w.c.Up(id) {
			l = append(l, api.Act{Kind: api.ActCrash, Node: id, Keep: anyKeep(c)}, at(api.ActBoot, id))
		}
	case n < 90:
		l = append(l, opened(id, place, filters()[c.Below(8)], c.Below(1+len(w.history)+2)*c.Below(2)))
	case n < 97:
		l = append(l, polled(id, place, []int{1, 2, 3, 64, c.Below(66)}[c.Below(5)]))
	case n < 99:
		a := resumed(id, place, filters()[c.Below(8)], w.anyToken(c))
		a.M = c.Below(3)
		l = append(l, a)
	case c.Below(2) == 0:
		l = append(l, at(api.ActCut, id))
	}
	return l
}

// runs does the steps of scripts made of steps by chance, some of whose bytes are changed.
func (w *watch) runs(c *sample.Chance, rounds int) {
	w.t.Helper()
	for range rounds {
		var b []byte
		for _, a := range w.any(c) {
			b = cluster.Put(b, a)
		}
		if len(b) > 0 && c.Below(40) == 0 {
			b = []byte(c.Change(string(b)))
		}
		for _, a := range cluster.Script(b) {
			w.do(a)
		}
	}
}

// goesOn asks whether, when nothing more fails, one is elected, answers, and all nodes come to the same.
func (w *watch) goesOn(c *sample.Chance) {
	w.t.Helper()
	w.calm(60)
	id := w.leader()
	w.same()
	for session := 1; session <= 3; session++ {
		a := sample.AskCreate("zero")
		if w.c.Status(id).Last > 900 {
			w.must(at(api.ActCompact, id))
		}
		// Bytes that were changed may have asked for greater numbers.
		w.numbers[session] = 1 + max(w.numbers[session], w.states[len(w.history)].Last(session))
		x := w.asks(asked(id, a, session, w.numbers[session]))
		y := w.asks(api.Act{Kind: api.ActFind, Node: id, Ask: w.anyFind(c)})
		w.found[fmt.Sprint("then answered ", x.Code, " ", y.Code)]++
		if w.leader() != id {
			w.t.Fatal("another one leads")
		}
	}
	w.same()
	w.tellAll()
}

func TestClustersByChance(t *testing.T) {
	found, chance := map[string]int{}, sample.Chance(262)
	for nodes := 1; nodes <= 7; nodes++ {
		for range 6 {
			w := watchOf(t, nodes, []int{0, 1, 3, 10, 64}[chance.Below(5)], found)
			for range 3 {
				w.runs(&chance, 250+150*nodes)
				w.goesOn(&chance)
			}
			found[fmt.Sprint("done by ", nodes)] += len(w.history)
		}
	}
	for _, what := range []string{
		"kind 1 shows 0", "kind 1 shows 90", "kind 2 shows 0", "kind 2 shows 4", "kind 2 shows 240", "kind 3 shows 0", "kind 4 shows 0", "kind 5 shows 0", "kind 5 shows 230", "kind 5 shows 240", "kind 5 shows 241",
		"kind 6 shows 0", "kind 6 shows 230", "kind 7 shows 0", "kind 7 shows 1", "kind 8 shows 0", "kind 9 shows 0", "kind 9 shows 5", "kind 10 shows 0", "kind 11 shows 0", "kind 11 shows 1",
		"kind 12 shows 0", "kind 12 shows 1", "kind 12 shows 4", "kind 12 shows 181", "kind 12 shows 210", "kind 13 shows 0", "kind 13 shows 1", "kind 13 shows 180", "kind 13 shows 181", "kind 13 shows 210", "kind 14 shows 0",
		"request answered 0", "request answered 4", "request answered 5", "request answered 140", "request answered 230", "read answered 0", "read answered 4", "read answered 140", "read answered 230",
		"event 2", "event 3", "event 4", "event 5", "event 6", "event 7", "event 8", "had 1", "had 2", "had 3", "told all",
	} {
		if found[what] < 15 {
			t.Errorf("just so many of %s: %d", what, found[what])
		}
	}
	for nodes := 1; nodes <= 7; nodes++ {
		if n := found[fmt.Sprint("done by ", nodes)]; n < 150 {
			t.Errorf("%d nodes have done just so many: %d", nodes, n)
		}
	}
}
