package node_test

import (
	"fmt"
	"testing"

	"tributary/api"
	"tributary/files"
	"tributary/node"
	"tributary/sample"
	"tributary/snap"
)

// P24.4: nets of nodes with disks and clients, by chance: messages are lost, come twice, and out of order; the power goes, and nodes crash and boot.

// request is one that was asked, and how long the history was then.
type request struct {
	a    api.Ask
	read bool
	long int
}

// net is nodes, their disks, and the messages between them.
type net struct {
	t     *testing.T
	keep  int
	nodes []*node.Node
	disks []*files.Disk
	bag   []api.Msg
	// done and terms are of each node: up to where it had done its entries, since it booted, and its term.
	done, terms []int
	leads       map[int]int
	// history is all that any node has done, and states what its beginnings make.
	history []api.Entry
	states  []*snap.State
	asked   map[string]request
	numbers [6]int
	specs   []api.Spec
	found   map[string]int
}

func netOf(t *testing.T, nodes, keep int, found map[string]int) *net {
	x, _ := snap.New(keep)
	w := &net{t: t, keep: keep, done: make([]int, nodes), terms: make([]int, nodes), leads: map[int]int{}, states: []*snap.State{x}, asked: map[string]request{}, found: found}
	w.specs = []api.Spec{sample.Ops(sample.Op(api.OpInc, "a", number(3))), sample.Ops(sample.Op(api.OpSet, "b.c", null), sample.Unset("a")), sample.Replace(sample.One("a", number(5)))}
	for id := range nodes {
		d := files.New()
		n, e := node.Boot(d, id, nodes, keep)
		want(t, "Boot", e, api.OK)
		w.nodes, w.disks = append(w.nodes, n), append(w.disks, d)
	}
	return w
}

// up tells whether a node is there, and not dead.
func (w *net) up(id int) bool { return w.nodes[id] != nil && !w.nodes[id].Dead() }

// sent puts messages into the bag, and looks at the node of the call, which may have died of it.
func (w *net) sent(id int, what string, l []api.Msg, e api.Errno) {
	w.t.Helper()
	w.found[fmt.Sprint(what, " ", e)]++
	if w.nodes[id].Dead() != (e == api.ErrDead) || w.nodes[id].Dead() && !w.disks[id].Off() || e != api.OK && len(l) > 0 {
		w.t.Fatalf("node %d: %s says %d, and sends %s", id, what, e, show(l))
	}
	w.bag = append(w.bag, l...)
	w.look(id)
	w.told(id)
}

// look asks whether a node has done what the others have.
func (w *net) look(id int) {
	w.t.Helper()
	if !w.up(id) {
		return
	}
	n := w.nodes[id]
	s := n.Status()
	if s.Done < w.done[id] || s.Term < w.terms[id] || s.Done != s.Commit {
		w.t.Fatalf("node %d had done %d in term %d, and is %+v", id, w.done[id], w.terms[id], s)
	}
	w.done[id], w.terms[id] = s.Done, s.Term
	if s.Role == leader {
		if leads, known := w.leads[s.Term]; known && leads != id {
			w.t.Fatalf("%d and %d lead in term %d", leads, id, s.Term)
		}
		w.leads[s.Term] = id
	}
	first, base, l := n.Log()
	for k, e := range l {
		i := first + k
		if i == len(w.history)+1 {
			x := w.states[len(w.history)].Fork()
			want(w.t, "Do", x.Do(e), api.OK)
			w.history, w.states = append(w.history, e), append(w.states, x)
		}
		if i > len(w.history) || !sample.AlikeEntries(e, w.history[i-1]) {
			w.t.Fatalf("node %d has done %s at %d, which is not what others did", id, show(e), i)
		}
	}
	if first+len(l)-1 != s.Done || first > 1 && (first-1 > len(w.history) || base != w.history[first-2].Term) {
		w.t.Fatalf("node %d has a log from %d on, behind term %d, of %d entries, and has done %d", id, first, base, len(l), s.Done)
	}
	if x := n.State(); string(x.Base()) != string(w.states[s.Done].Base()) || x.Last(1) != w.states[s.Done].Last(1) {
		w.t.Fatalf("node %d has another state than its entries make", id)
	}
}

// told asks whether what a node answers is right.
func (w *net) told(id int) {
	w.t.Helper()
	for _, a := range w.nodes[id].Answers() {
		r, known := w.asked[fmt.Sprint(a.Session, " ", a.Number)]
		if !known || r.read != a.Read {
			w.t.Fatalf("node %d answers %s", id, show(a))
		}
		what := "request"
		if a.Read {
			what = "read"
		}
		w.found[fmt.Sprint(what, " answered ", a.Code)]++
		switch {
		case a.Code == api.ErrLeader:
			if a.Index != 0 || !sample.None(a.Value) {
				w.t.Fatalf("node %d answers %s", id, show(a))
			}
		case a.Index > len(w.history) || (a.Read || a.Code != api.OK) && a.Index < r.long:
			w.t.Fatalf("node %d answers %s, to what was asked when %d were done; now %d are", id, show(a), r.long, len(w.history))
		case a.Read:
			v, e := w.states[a.Index].Find(r.a.Coll, r.a.Id)
			if e != a.Code || !sample.Alike(v, a.Value) {
				w.t.Fatalf("node %d answers %s, there is %s, %d", id, show(a), show(v), e)
			}
		case a.Code == api.OK:
			w.isThere(id, a)
		default:
			if _, e := w.states[a.Index].Lower(r.a); e != a.Code || !sample.None(a.Value) {
				w.t.Fatalf("node %d answers %s to %s, which is refused with %d", id, show(a), show(r.a), e)
			}
		}
	}
}

// isThere asks whether what a request that was answered OK asked for is done, once.
func (w *net) isThere(id int, a api.Answer) {
	w.t.Helper()
	at := 0
	for i, e := range w.history {
		if e.Session == a.Session && e.Number == a.Number {
			if at != 0 {
				w.t.Fatalf("request %d of session %d is done at %d and at %d", a.Number, a.Session, at, i+1)
			}
			at = i + 1
		}
	}
	if at == 0 || a.Index != 0 && a.Index != at || !sample.None(a.Value) {
		w.t.Fatalf("node %d answers %s, and that is done at %d", id, show(a), at)
	}
	e, no := w.states[at-1].Lower(w.asked[fmt.Sprint(a.Session, " ", a.Number)].a)
	e.Term = w.history[at-1].Term
	if no != api.OK || !sample.AlikeEntries(e, w.history[at-1]) {
		w.t.Fatalf("what was asked for is %s, %d, what was done %s", show(e), no, show(w.history[at-1]))
	}
}

// arrive lets the message at a place arrive, if its node is up; it may stay.
func (w *net) arrive(i int, stays bool) {
	w.t.Helper()
	m := w.bag[i]
	if !stays {
		w.lose(i)
	}
	if !w.up(m.To) {
		return
	}
	w.found[fmt.Sprint("kind ", m.Kind)]++
	l, e := w.nodes[m.To].Step(m)
	w.sent(m.To, "Step", l, e)
}

func (w *net) lose(i int) { w.bag = append(w.bag[:i:i], w.bag[i+1:]...) }

// tick lets a node's clock go on.
func (w *net) tick(id int) {
	w.t.Helper()
	if w.up(id) {
		l, e := w.nodes[id].Tick()
		w.sent(id, "Tick", l, e)
	}
}

// ask asks a node for something, of one of few sessions; perhaps what was asked before.
func (w *net) ask(id int, c *sample.Chance) {
	w.t.Helper()
	session := 1 + c.Below(3)
	old := c.Below(3) == 0 && w.numbers[session] > 0
	a := c.Ask(w.specs)
	for c.Below(5) > 0 {
		// Mostly such as can be done.
		if _, e := w.states[len(w.history)].Lower(sample.AskBy(a, 1, 1)); e == api.OK {
			break
		}
		a = c.Ask(w.specs)
	}
	if !old {
		w.numbers[session]++
	}
	a.Session, a.Number = session, w.numbers[session]
	key := fmt.Sprint(a.Session, " ", a.Number)
	if old {
		a = w.asked[key].a
	} else {
		w.asked[key] = request{a, false, len(w.history)}
	}
	l, e := w.nodes[id].Ask(a)
	w.sent(id, "Ask", l, e)
}

// find asks a node for a document.
func (w *net) find(id int, c *sample.Chance) {
	w.t.Helper()
	a := c.Ask(w.specs)
	w.numbers[5]++
	a.Session, a.Number = 5, w.numbers[5]
	w.asked[fmt.Sprint(a.Session, " ", a.Number)] = request{a, true, len(w.history)}
	l, e := w.nodes[id].Find(a.Session, a.Number, a.Coll, a.Id)
	w.sent(id, "Find", l, e)
}

// crash takes from a node what is not sure, or some of it.
func (w *net) crash(id int, c *sample.Chance) {
	var l []api.Keep
	if c.Below(2) == 0 {
		for _, name := range w.disks[id].Names() {
			l = append(l, api.Keep{Name: name, N: c.Below(60)})
		}
	}
	want(w.t, "Crash", w.disks[id].Crash(l), api.OK)
	w.nodes[id] = nil
}

// boot lets a node boot, if it is not up.
func (w *net) boot(id int) {
	w.t.Helper()
	if w.up(id) {
		return
	}
	n, e := node.Boot(w.disks[id], id, len(w.nodes), w.keep)
	w.found[fmt.Sprint("Boot ", e)]++
	if e == api.ErrOff && w.disks[id].Off() {
		w.nodes[id] = nil
		return
	}
	if e != api.OK {
		w.t.Fatalf("Boot: %d", e)
	}
	w.nodes[id], w.done[id] = n, 0
	w.look(id)
}

// any does a step by chance.
func (w *net) any(c *sample.Chance) {
	w.t.Helper()
	id := c.Below(len(w.nodes))
	switch n := c.Below(100); {
	case n < 12:
		for range 1 + c.Below(1+c.Below(8)) {
			w.tick(id)
		}
	case n < 72 && len(w.bag) > 0:
		w.arrive(c.Below(min(len(w.bag), 1+c.Below(16))), c.Below(8) == 0)
	case n < 75 && len(w.bag) > 0:
		w.lose(c.Below(len(w.bag)))
	case n < 85:
		for id := range w.nodes {
			if w.up(id) && (w.nodes[id].Status().Role == leader || c.Below(20) == 0) {
				w.ask(id, c)
			}
		}
	case n < 90:
		for id := range w.nodes {
			if w.up(id) && (w.nodes[id].Status().Role == leader || c.Below(20) == 0) {
				w.find(id, c)
			}
		}
	case n < 94 && w.up(id):
		w.sent(id, "Compact", nil, w.nodes[id].Compact())
	case n == 94 && c.Below(2) == 0:
		w.disks[id].Stop(c.Below(40)-1, c.Below(40))
	case n == 95 && c.Below(4) == 0:
		w.crash(id, c)
	case n < 99:
		for id := range w.nodes {
			if !w.up(id) && c.Below(2) == 0 {
				w.disks[id].Crash(nil)
				w.boot(id)
			}
		}
	case c.Below(3) == 0:
		w.bag = nil
	}
}

// calm lets all boot, and so many ticks pass in which nothing is lost.
func (w *net) calm(many int) {
	w.t.Helper()
	for id := range w.nodes {
		w.disks[id].Crash(nil)
		w.boot(id)
	}
	for range many {
		for id := range w.nodes {
			w.tick(id)
		}
		for len(w.bag) > 0 {
			w.arrive(0, false)
		}
	}
}

// leader answers a node that leads.
func (w *net) leader() int {
	for id, n := range w.nodes {
		if s := n.Status(); s.Role == leader && s.Term == w.nodes[0].Status().Term {
			return id
		}
	}
	w.t.Fatal("nobody leads")
	return 0
}

// same asks whether all nodes have done all that is in their logs.
func (w *net) same() {
	w.t.Helper()
	for id, n := range w.nodes {
		if s := n.Status(); s.Done != len(w.history) || s.Last != s.Done || s.Leader != w.leader() {
			w.t.Fatalf("node %d stands %+v, and %d were done", id, s, len(w.history))
		}
	}
}

func TestNets(t *testing.T) {
	found, chance := map[string]int{}, sample.Chance(241)
	for nodes := 1; nodes <= 7; nodes++ {
		for range 7 {
			w := netOf(t, nodes, chance.Below(8), found)
			for range 600 + 400*nodes {
				w.any(&chance)
			}
			found[fmt.Sprint("done by ", nodes)] += len(w.history)
			w.calm(150)
			w.same()
			answered := found["request answered 0"]
			for i := range 3 {
				w.numbers[i+1]++
				a := sample.AskBy(sample.AskCreate("zero"), i+1, w.numbers[i+1])
				if i%2 == 1 {
					a.Kind = api.AskDrop
				}
				w.asked[fmt.Sprint(i+1, " ", a.Number)] = request{a, false, len(w.history)}
				l, e := w.nodes[w.leader()].Ask(a)
				if e == api.ErrFull {
					w.sent(w.leader(), "Compact", nil, w.nodes[w.leader()].Compact())
					l, e = w.nodes[w.leader()].Ask(a)
				}
				w.sent(w.leader(), "Ask", l, e)
				w.calm(4)
			}
			w.same()
			if got := found["request answered 0"] - answered; got != 3 {
				// There may be as many collections as there can be.
				t.Errorf("of 3 requests %d were answered", got)
			}
		}
	}
	for _, what := range []string{
		"request answered 0", "request answered 4", "request answered 5", "request answered 140", "request answered 230", "read answered 0", "read answered 4", "read answered 140", "read answered 230",
		"Ask 0", "Ask 230", "Ask 240", "Step 240", "Compact 0", "Compact 1", "Compact 240", "Boot 0", "kind 1", "kind 2", "kind 3", "kind 4", "kind 5",
	} {
		if found[what] < 15 {
			t.Errorf("just so many of %s: %d", what, found[what])
		}
	}
	for nodes := 1; nodes <= 7; nodes++ {
		if n := found[fmt.Sprint("done by ", nodes)]; n < 150 {
			t.Errorf("%d nodes have done just so many: %d", nodes, n)
		}
	}
}
