package raft_test

import (
	"fmt"
	"testing"

	"tributary/api"
	"tributary/msg"
	"tributary/raft"
	"tributary/sample"
)

// P23.4: nets of nodes, between which messages are lost, come twice, and out of order, and which begin again.

// net is nodes, and the messages between them.
type net struct {
	t      *testing.T
	nodes  []*raft.Raft
	snaps  []string
	seen   []api.Start
	bag    []api.Msg
	leads  map[int]int
	rounds []round
	// history is all that any node has committed.
	history []api.Entry
	// away is the node whose messages are all lost; none of them, if it is below 0.
	away  int
	asked int
	found map[string]int
}

// round is one that a node began in a term, when so many were committed anywhere.
type round struct{ node, term, round, committed int }

func netOf(t *testing.T, nodes int, found map[string]int) *net {
	w := &net{t: t, away: -1, leads: map[int]int{}, found: found, snaps: make([]string, nodes)}
	for id := range nodes {
		s := api.Start{Id: id, Nodes: nodes, Vote: nobody, First: 1}
		w.nodes, w.seen = append(w.nodes, made(t, s)), append(w.seen, s)
	}
	return w
}

// snapOf is the snapshot behind an index.
func (w *net) snapOf(i int) string { return fmt.Sprint(i, " ", w.history[i-1].Term) }

// sent puts messages into the bag, and looks at the node that sent them.
func (w *net) sent(node int, l []api.Msg) {
	w.t.Helper()
	for _, m := range l {
		// They go as bytes.
		b, e := msg.Encode(m)
		again, no := msg.Decode(b)
		if e != api.OK || no != api.OK || m.From != node || m.Kind == api.MsgSnap && string(m.Snap) != w.snapOf(m.Index) {
			w.t.Fatalf("node %d sends %s: %d, %d", node, show(m), e, no)
		}
		if m.From != w.away && m.To != w.away {
			w.bag = append(w.bag, again)
		}
		w.found[fmt.Sprint("sent ", m.Kind)]++
	}
	w.look(node)
}

// look asks whether a node is right: nothing goes back, and what it commits is what others commit.
func (w *net) look(node int) {
	w.t.Helper()
	r, was := w.nodes[node], w.seen[node]
	s := r.Brief()
	if s.Term < was.Term || s.Commit < was.Commit || s.Term == was.Term && was.Vote != nobody && s.Vote != was.Vote {
		w.t.Fatalf("node %d was %v, and is %v", node, was, s)
	}
	if leads, known := w.leads[s.Term]; r.Role() == leader && known && leads != node {
		w.t.Fatalf("nodes %d and %d lead in term %d", leads, node, s.Term)
	}
	if r.Role() == leader {
		w.leads[s.Term] = node
	}
	if b := string(r.Took()); b != "" {
		if w.snaps[node] = b; b != w.snapOf(s.First-1) {
			w.t.Fatalf("node %d took %q, and begins at %d", node, b, s.First)
		}
		w.found["took"]++
	}
	r.Clean()
	for i := max(s.First, was.Commit-8, 1); i <= s.Commit; i++ {
		e, no := r.At(i)
		if i == len(w.history)+1 {
			w.history = append(w.history, e)
		}
		if no != api.OK || i > len(w.history) || !sample.AlikeEntries(e, w.history[i-1]) {
			w.t.Fatalf("node %d commits %s at %d, others %s", node, show(e), i, show(w.history))
		}
	}
	if s.Commit > len(w.history) || s.First > 1 && s.Base != w.history[s.First-2].Term {
		w.t.Fatalf("node %d is %v, the others committed %d", node, s, len(w.history))
	}
	w.seen[node] = s
	w.sure(node, s)
}

// sure asks whether a node that is sure of a round has committed all that was committed when it began.
func (w *net) sure(node int, s api.Start) {
	var left []round
	for _, x := range w.rounds {
		switch {
		case x.node != node || x.term > s.Term:
			left = append(left, x)
		case x.term < s.Term:
		case !w.nodes[node].Sure(x.round):
			left = append(left, x)
		case s.Commit < x.committed:
			w.t.Fatalf("node %d is sure of %v, and its commit is %d", node, x, s.Commit)
		default:
			w.found["sure"]++
		}
	}
	w.rounds = left
}

// arrive lets the message at a place arrive; it may stay.
func (w *net) arrive(i int, stays bool) {
	w.t.Helper()
	m := w.bag[i]
	if !stays {
		w.lose(i)
	}
	l, e := w.nodes[m.To].Step(m)
	if e != api.OK {
		w.t.Fatalf("Step(%s): %d", show(m), e)
	}
	w.sent(m.To, l)
}

func (w *net) lose(i int) { w.bag = append(w.bag[:i:i], w.bag[i+1:]...) }

// propose asks a node to append something, if it leads.
func (w *net) propose(node int) bool {
	w.t.Helper()
	w.asked++
	_, l, e := w.nodes[node].Propose(of(0, w.asked))
	w.sent(node, l)
	return e == api.OK
}

// any does a step by chance.
func (w *net) any(c *sample.Chance) {
	w.t.Helper()
	node := c.Below(len(w.nodes))
	r := w.nodes[node]
	switch n := c.Below(100); {
	case n < 15:
		for range 1 + c.Below(1+c.Below(9)) {
			w.sent(node, r.Tick())
		}
	case n < 80 && len(w.bag) > 0:
		w.arrive(c.Below(min(len(w.bag), 1+c.Below(20))), c.Below(8) == 0)
	case n < 83 && len(w.bag) > 0:
		w.lose(c.Below(len(w.bag)))
	case n < 90:
		for node := range w.nodes {
			w.propose(node)
		}
	case n < 93:
		if round, l, e := r.Begin(); e == api.OK {
			w.rounds = append(w.rounds, roundOf(r, round, len(w.history)))
			w.sent(node, l)
		}
	case n < 97:
		w.compact(node, c)
	case n < 98:
		w.again(node)
	case n < 99:
		// One of the nodes is away for a while.
		w.away = c.Below(2*len(w.nodes)) - len(w.nodes)
		w.bag = nil
	}
}

func roundOf(r *raft.Raft, n, committed int) round {
	s := r.Brief()
	return round{s.Id, s.Term, n, committed}
}

// compact drops some of what a node has committed.
func (w *net) compact(node int, c *sample.Chance) {
	s := w.nodes[node].Brief()
	if s.Commit < s.First {
		return
	}
	i := s.First + c.Below(s.Commit-s.First+1)
	w.snaps[node] = w.snapOf(i)
	want(w.t, "Compact", w.nodes[node].Compact(i, []byte(w.snaps[node])), api.OK)
	w.look(node)
}

// again lets a node begin again, of what it was; of what is committed it knows just what its snapshot has.
func (w *net) again(node int) {
	s := w.nodes[node].State()
	s.Commit = s.First - 1
	w.nodes[node] = made(w.t, s)
	if s.First > 1 {
		want(w.t, "Hold", w.nodes[node].Hold([]byte(w.snaps[node])), api.OK)
	}
	w.seen[node].Commit = s.Commit
	w.look(node)
}

// calm lets so many ticks pass in which all messages arrive, in order, and nothing is lost.
func (w *net) calm(ticks int) {
	w.t.Helper()
	for range ticks {
		for node, r := range w.nodes {
			w.sent(node, r.Tick())
		}
		for len(w.bag) > 0 {
			w.arrive(0, false)
		}
	}
}

// leader answers a node that leads, of the newest term.
func (w *net) leader() int {
	best := -1
	for node, r := range w.nodes {
		if r.Role() == leader && (best < 0 || r.Brief().Term > w.nodes[best].Brief().Term) {
			best = node
		}
	}
	return best
}

// same asks whether all nodes have committed all that is in their logs.
func (w *net) same() {
	w.t.Helper()
	for node, r := range w.nodes {
		if s := r.Brief(); s.Commit != len(w.history) || r.Last() != s.Commit || r.Leader() != w.leader() {
			w.t.Fatalf("node %d is %v, its last is %d, who leads is %d; committed are %d, %d leads", node, s, r.Last(), r.Leader(), len(w.history), w.leader())
		}
	}
}

func TestNets(t *testing.T) {
	found, chance := map[string]int{}, sample.Chance(99)
	for nodes := 1; nodes <= 7; nodes++ {
		for range 16 {
			w := netOf(t, nodes, found)
			for range 1500 {
				w.any(&chance)
			}
			found[fmt.Sprint("committed by ", nodes)] += len(w.history)
			// Then nothing is lost any more: one is elected, and all come to the same.
			w.away = -1
			w.calm(150)
			w.same()
			before := len(w.history)
			if !w.propose(w.leader()) {
				t.Fatal("what is asked for is refused")
			}
			w.calm(6)
			w.same()
			if len(w.history) != before+1 || w.history[before].Number != w.asked {
				t.Fatalf("committed is %s", show(w.history[before:]))
			}
		}
	}
	for _, what := range []string{"took", "sure", "sent 1", "sent 2", "sent 3", "sent 4", "sent 5"} {
		if found[what] < 100 {
			t.Errorf("just so many of %s: %d", what, found[what])
		}
	}
	for nodes := 1; nodes <= 7; nodes++ {
		if n := found[fmt.Sprint("committed by ", nodes)]; n < 300 {
			t.Errorf("%d nodes committed just so many: %d", nodes, n)
		}
	}
}

// If nothing is lost from the beginning on, node 0 leads after as many ticks as it waits, whatever the number of nodes.
func TestCalmNets(t *testing.T) {
	for nodes := 1; nodes <= 7; nodes++ {
		w := netOf(t, nodes, map[string]int{})
		w.calm(9)
		if w.leader() != -1 {
			t.Errorf("of %d nodes one leads after 9 ticks", nodes)
		}
		w.calm(1)
		if w.leader() != 0 || w.nodes[0].Brief().Term != 1 || len(w.history) != 1 {
			t.Errorf("of %d nodes %d leads after 10 ticks; committed is %s", nodes, w.leader(), show(w.history))
		}
		for range 50 {
			w.propose(0)
		}
		w.calm(4)
		w.same()
		if len(w.history) != 51 || w.leader() != 0 {
			t.Errorf("of %d nodes %d leads; committed are %d", nodes, w.leader(), len(w.history))
		}
	}
}

// As long as a minority is away the others go on; when it is back, what it alone had is gone.
func TestALeaderThatIsCutOff(t *testing.T) {
	for nodes := 3; nodes <= 7; nodes += 2 {
		w := netOf(t, nodes, map[string]int{})
		w.calm(12)
		w.propose(0)
		w.calm(4)
		w.same()
		// Node 0 is cut off, with an entry that it alone has.
		w.propose(0)
		w.bag = nil
		for range 60 {
			for node, r := range w.nodes {
				w.sent(node, r.Tick())
			}
			for len(w.bag) > 0 {
				if m := w.bag[0]; m.From == 0 || m.To == 0 {
					w.lose(0)
					continue
				}
				w.arrive(0, false)
			}
		}
		if w.leader() == 0 || w.nodes[0].Role() != leader || w.nodes[0].Brief().Commit != 2 {
			t.Fatalf("of %d nodes %d leads", nodes, w.leader())
		}
		w.propose(w.leader())
		w.calm(8)
		w.same()
		for _, e := range w.history {
			if e.Number == 2 {
				t.Errorf("what the cut off leader alone had is committed")
			}
		}
		if w.history[len(w.history)-1].Number != 3 {
			t.Errorf("committed is %s", show(w.history))
		}
	}
}
