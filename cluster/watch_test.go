package cluster_test

import (
	"fmt"
	"slices"
	"testing"

	"tributary/api"
	"tributary/cluster"
	"tributary/event"
	"tributary/filter"
	"tributary/sample"
	"tributary/snap"
	"tributary/token"
)

// P26.3: whatever steps, what is committed is the same on all nodes, and stays; answers are what that makes; events are its image.

// request is one that was asked, and how long the history was then.
type request struct {
	a    api.Ask
	read bool
	long int
}

// stream is what a cursor was told to tell, and told.
type stream struct {
	f api.Filter
	// at is the first index that it looks at; due: the end of the entry ahead is told first.
	at   int
	due  bool
	told []api.Event
}

// watch looks at a cluster while it goes on.
type watch struct {
	t    *testing.T
	c    *cluster.Cluster
	keep int
	// seen is how each node stood, terms are the greatest ones that it was in, also ahead of a boot.
	seen  [7]api.Status
	terms [7]int
	leads map[int]int
	// history is all that any node has done, and states what its beginnings make.
	history []api.Entry
	states  []*snap.State
	asked   map[[2]int][]request
	streams [16]*stream
	// tokens are those of the events that were told, and ends those of ends.
	tokens, ends [][]byte
	numbers      [6]int
	found        map[string]int
}

func watchOf(t *testing.T, nodes, keep int, found map[string]int) *watch {
	c, e := cluster.New(nodes, keep)
	if e != api.OK {
		t.Fatalf("New: %d", e)
	}
	x, _ := snap.New(keep)
	w := &watch{t: t, c: c, keep: keep, leads: map[int]int{}, states: []*snap.State{x}, asked: map[[2]int][]request{}, found: found}
	w.looks()
	return w
}

// do does a step, and looks at all that it shows and changes.
func (w *watch) do(a api.Act) api.Told {
	w.t.Helper()
	if a.Kind == api.ActAsk || a.Kind == api.ActFind {
		key := [2]int{a.Ask.Session, a.Ask.Number}
		w.asked[key] = append(w.asked[key], request{a.Ask, a.Kind == api.ActFind, len(w.history)})
	}
	open := w.opens(a)
	told := w.c.Do(a)
	w.found[fmt.Sprint("kind ", a.Kind, " shows ", told.Code)]++
	if (a.Kind == api.ActBoot || a.Kind == api.ActCrash) && told.Code == api.OK {
		w.seen[a.Node] = api.Status{}
	}
	w.looks()
	if len(told.Nodes) != len(told.Answers) || a.Kind != api.ActPoll && len(told.Events) > 0 {
		w.t.Fatalf("%s shows %s", show(a), show(told))
	}
	for i, x := range told.Answers {
		w.answered(told.Nodes[i], x)
	}
	if told.Code == api.OK {
		w.streamed(a, open, told.Events)
	}
	return told
}

// looks looks at each node.
func (w *watch) looks() {
	w.t.Helper()
	for id := range w.c.Nodes() {
		if s := w.c.Status(id); w.c.Up(id) && s != w.seen[id] {
			w.look(id, s)
			w.seen[id], w.terms[id] = s, s.Term
		}
	}
}

// look asks whether a node that stands so goes on, and has done what the others have.
func (w *watch) look(id int, s api.Status) {
	w.t.Helper()
	if was := w.seen[id]; s.Done < was.Done || s.Commit < was.Commit || s.First < was.First || s.Term < w.terms[id] || s.Done != s.Commit || s.Last < s.Done || s.First > s.Done+1 {
		w.t.Fatalf("node %d stood %+v, in term %d, and stands %+v", id, was, w.terms[id], s)
	}
	if s.Role == leader {
		if leads, known := w.leads[s.Term]; known && leads != id {
			w.t.Fatalf("%d and %d lead in term %d", leads, id, s.Term)
		}
		w.leads[s.Term] = id
	}
	first, base, l := w.c.Log(id)
	for k, e := range l {
		i := first + k
		if i == len(w.history)+1 {
			x := w.states[len(w.history)].Fork()
			if no := x.Do(e); no != api.OK {
				w.t.Fatalf("node %d has done %s, which can not be done: %d", id, show(e), no)
			}
			w.history, w.states = append(w.history, e), append(w.states, x)
		}
		if i > len(w.history) || !sample.AlikeEntries(e, w.history[i-1]) {
			w.t.Fatalf("node %d has done %s at %d, which is not what others did", id, show(e), i)
		}
	}
	if first != s.First || first+len(l)-1 != s.Done || first-1 > len(w.history) || first == 1 && base != 0 || first > 1 && base != w.history[first-2].Term {
		w.t.Fatalf("node %d has a log from %d on, behind term %d, of %d entries, and stands %+v", id, first, base, len(l), s)
	}
	if string(w.c.Base(id)) != string(w.states[s.Done].Base()) {
		w.t.Fatalf("node %d has another database than its entries make", id)
	}
}

// answered asks whether an answer is right.
func (w *watch) answered(id int, x api.Answer) {
	w.t.Helper()
	what := "request"
	if x.Read {
		what = "read"
	}
	w.found[fmt.Sprint(what, " answered ", x.Code)]++
	if !slices.ContainsFunc(w.asked[[2]int{x.Session, x.Number}], func(r request) bool { return w.right(r, x) }) {
		w.t.Fatalf("node %d answers %s; %d were done", id, show(x), len(w.history))
	}
}

// right tells whether an answer is right to a request.
func (w *watch) right(r request, x api.Answer) bool {
	switch {
	case r.read != x.Read:
		return false
	case x.Code == api.ErrLeader:
		return x.Index == 0 && sample.None(x.Value)
	case x.Read:
		if x.Index < r.long || x.Index > len(w.history) {
			return false
		}
		v, e := w.states[x.Index].Find(r.a.Coll, r.a.Id)
		return e == x.Code && sample.Alike(v, x.Value)
	case x.Code == api.OK:
		return sample.None(x.Value) && w.isThere(r, x)
	case x.Index < r.long || x.Index > len(w.history):
		return false
	}
	_, e := w.states[x.Index].Lower(r.a)
	return e == x.Code && sample.None(x.Value)
}

// isThere tells whether what was answered OK is done, just once.
func (w *watch) isThere(r request, x api.Answer) bool {
	at := 0
	for i, e := range w.history {
		if e.Session == x.Session && e.Number == x.Number {
			if at != 0 {
				return false
			}
			at = i + 1
		}
	}
	if at == 0 || x.Index == 0 {
		return at > 0
	}
	e, no := w.states[at-1].Lower(r.a)
	e.Term = w.history[at-1].Term
	return at == x.Index && no == api.OK && sample.AlikeEntries(e, w.history[at-1])
}

// opens answers the stream that a step opens, if it is not refused.
func (w *watch) opens(a api.Act) *stream {
	s := &stream{f: a.Filter, at: a.N}
	switch a.Kind {
	case api.ActOpen:
		if a.N == 0 {
			s.at = w.c.Status(a.Node).Done + 1
		}
		return s
	case api.ActAfter:
		k, _ := token.Decode(a.Token)
		s.at = k.Index + 1
		return s
	}
	return nil
}

// streamed asks whether the events that a step told follow those that were told.
func (w *watch) streamed(a api.Act, open *stream, events []api.Event) {
	w.t.Helper()
	switch a.Kind {
	case api.ActOpen:
		w.streams[a.Cursor] = open
	case api.ActAfter:
		k, e := token.Decode(a.Token)
		if e != api.OK || k.Index > len(w.history) || k.Index > 0 && k.Term != w.history[k.Index-1].Term || k.Kind == api.TokenEnd && a.M == 0 {
			w.t.Fatalf("a cursor stands behind %q: %+v, %d", a.Token, k, e)
		}
		open.due = k.Kind == api.TokenEntry && k.Index > 0 && filter.Ends(a.Filter, w.history[k.Index-1])
		w.streams[a.Cursor] = open
	case api.ActPoll:
		w.polled(w.streams[a.Cursor], a, events)
	}
}

// polled asks whether events are those that follow, and all that are done on the node that was polled.
func (w *watch) polled(s *stream, a api.Act, events []api.Event) {
	w.t.Helper()
	done := w.c.Status(a.Node).Done
	last, n := done, len(s.told)
	if n > 0 {
		// An end may be due of what another node has done.
		last = max(done, s.told[n-1].Index)
	}
	all := w.image(s, last, done)
	s.told = append(s.told, events...)
	if len(events) > a.N || len(s.told) > len(all) && len(events) > 0 || len(s.told) < len(all) && len(events) < a.N || !slices.EqualFunc(events, all[min(n, len(all)):min(len(s.told), len(all))], sample.AlikeEvents) {
		w.t.Fatalf("behind %d events %s tells %s, all are %s", n, show(a), show(events), show(all))
	}
	for _, v := range events {
		w.tokens = append(w.tokens, v.Token)
		if v.Kind == api.EventInvalid {
			w.ends = append(w.ends, v.Token)
		}
		w.found[fmt.Sprint("event ", v.Kind)]++
		w.found[fmt.Sprint("had ", v.Had)]++
	}
	if len(events) > 0 && !slices.Equal(w.c.Token(a.Cursor), events[len(events)-1].Token) {
		w.t.Fatalf("behind %s the token is %q", show(events), w.c.Token(a.Cursor))
	}
}

// image answers the events of the history up to an index by a stream, with the documents that a state knows in which so many entries were done.
func (w *watch) image(s *stream, last, done int) []api.Event {
	w.t.Helper()
	var l []api.Event
	add := func(v api.Event, e api.Errno) {
		if e != api.OK {
			w.t.Fatalf("an event: %d", e)
		}
		l = append(l, v)
	}
	if s.due {
		add(event.End(s.at-1, w.history[s.at-2].Term, s.f.Coll))
		return l
	}
	for i := s.at; i <= last; i++ {
		e := w.history[i-1]
		if filter.Match(s.f, e) {
			pre, had := api.Value{}, api.ImageExpired
			if i > done-w.keep {
				had = api.ImageNone
				if v, no := w.states[i-1].Find(e.Coll, e.Id); no == api.OK && (e.Kind == api.EntryUpdate || e.Kind == api.EntryDelete || e.Kind == api.EntryInsert) {
					pre, had = v, api.ImageHere
				}
			}
			add(event.Of(e, i, pre, had))
		}
		if filter.Ends(s.f, e) {
			add(event.End(i, e.Term, s.f.Coll))
			break
		}
	}
	return l
}

// calm lets all nodes boot that do not run; then nothing more is lost, and so many ticks pass.
func (w *watch) calm(ticks int) {
	w.t.Helper()
	for id := range w.c.Nodes() {
		if !w.c.Up(id) {
			w.must(at(api.ActCrash, id))
			w.must(at(api.ActBoot, id))
		}
		w.must(api.Act{Kind: api.ActStop, Node: id, N: -1})
	}
	for range ticks {
		for id := range w.c.Nodes() {
			w.must(at(api.ActTick, id))
		}
		for w.c.Bag() > 0 {
			w.must(api.Act{Kind: api.ActArrive})
		}
	}
}

// must does a step that must be done.
func (w *watch) must(a api.Act) api.Told {
	w.t.Helper()
	told := w.do(a)
	if told.Code != api.OK {
		w.t.Fatalf("%s: %d", show(a), told.Code)
	}
	return told
}

// leader answers the node that leads, and asks whether all others follow it.
func (w *watch) leader() int {
	w.t.Helper()
	id := w.c.Status(0).Leader
	for k := range w.c.Nodes() {
		if s := w.c.Status(k); s.Leader != id || s.Leader == nobody || s.Term != w.c.Status(0).Term || (s.Role == leader) != (k == id) {
			w.t.Fatalf("node %d stands %+v, node 0 %+v", k, s, w.c.Status(0))
		}
	}
	return id
}

// same asks whether all nodes have done all that is in their logs.
func (w *watch) same() {
	w.t.Helper()
	for id := range w.c.Nodes() {
		if s := w.c.Status(id); s.Done != len(w.history) || s.Last != s.Done {
			w.t.Fatalf("node %d stands %+v, and %d were done", id, s, len(w.history))
		}
	}
}

// asks asks the leader for something, and answers what is answered.
func (w *watch) asks(a api.Act) api.Answer {
	w.t.Helper()
	told := w.must(a)
	for range 4 {
		for id := range w.c.Nodes() {
			told.Answers = append(told.Answers, w.must(at(api.ActTick, id)).Answers...)
		}
		for w.c.Bag() > 0 {
			told.Answers = append(told.Answers, w.must(api.Act{Kind: api.ActArrive}).Answers...)
		}
	}
	if len(told.Answers) != 1 || told.Answers[0].Session != a.Ask.Session || told.Answers[0].Number != a.Ask.Number {
		w.t.Fatalf("%s is answered %s", show(a), show(told.Answers))
	}
	return told.Answers[0]
}

// tellAll asks all cursors for all that they tell, and whether they do.
func (w *watch) tellAll() {
	w.t.Helper()
	for place, s := range w.streams {
		if s == nil {
			continue
		}
		for {
			told := w.do(polled(place%w.c.Nodes(), place, 64))
			if told.Code == api.ErrGone {
				// What it looks at next is not in that log any more.
				w.found["gone"]++
				break
			}
			if told.Code != api.OK && told.Code != api.ErrEnded {
				w.t.Fatalf("cursor %d: %d", place, told.Code)
			}
			if len(told.Events) < 64 {
				if all := w.image(s, len(w.history), 0); len(all) != len(s.told) {
					w.t.Fatalf("cursor %d told %s, all are %s", place, show(s.told), show(all))
				}
				w.found["told all"]++
				break
			}
		}
	}
}
