package node

import (
	"slices"

	"tributary/api"
	"tributary/value"
)

// wait is a request, or a read, that waits for being answered.
type wait struct {
	// answer is what is told then, but for what is read.
	answer api.Answer
	// term, and the log's last index, are those of when it was asked.
	term, last int
	// round is the one that must be sure; 0, if none must.
	round int
	// coll and id are what is read.
	coll string
	id   api.Value
}

// Ask asks for what a says, and answers what is sent.
func (n *Node) Ask(a api.Ask) ([]api.Msg, api.Errno) {
	if e := n.mayAsk(a.Session, a.Number); e != api.OK {
		return nil, e
	}
	x := n.state.Fork()
	if e := n.try(func() api.Errno { return n.doUpTo(n.raft.Last(), x) }); e != api.OK {
		return nil, e
	}
	w := wait{answer: api.Answer{Session: a.Session, Number: a.Number}}
	switch last := x.Last(a.Session); {
	case last > a.Number:
		return nil, api.ErrOld
	case last == a.Number:
		return n.await(w, nil)
	}
	e, no := x.Lower(a)
	if no != api.OK {
		w.answer.Code, w.answer.Index = no, n.raft.Last()
		return n.awaitRound(w)
	}
	i, sent, no := n.raft.Propose(e)
	if no != api.OK {
		return nil, no
	}
	w.answer.Index = i
	return n.await(w, sent)
}

// Find asks for the document of an id in a collection, and answers what is sent.
func (n *Node) Find(session, number int, name string, id api.Value) ([]api.Msg, api.Errno) {
	if e := n.mayAsk(session, number); e != api.OK {
		return nil, e
	}
	return n.awaitRound(wait{answer: api.Answer{Session: session, Number: number, Read: true}, coll: name, id: value.Clone(id)})
}

// mayAsk answers what keeps a request of that session and number from being looked at.
func (n *Node) mayAsk(session, number int) api.Errno {
	e := n.refusal()
	switch {
	case e != api.OK:
		return e
	case n.raft.Role() != api.RoleLeader:
		return api.ErrLeader
	case session < 1 || session > api.MaxSession || number < 1 || number > api.MaxNumber:
		return api.ErrArg
	case len(n.waits) >= api.MaxWaits:
		return api.ErrFull
	}
	return api.OK
}

// awaitRound lets w wait for a round that begins.
func (n *Node) awaitRound(w wait) ([]api.Msg, api.Errno) {
	round, sent, e := n.raft.Begin()
	if e != api.OK {
		return nil, e
	}
	w.round = round
	return n.await(w, sent)
}

// await lets w wait behind the others for all that is in the log now, and settles.
func (n *Node) await(w wait, sent []api.Msg) ([]api.Msg, api.Errno) {
	w.term, w.last = n.raft.Brief().Term, n.raft.Last()
	n.waits = append(n.waits, w)
	return n.settle(sent)
}

// answer answers, in order, what waits and can be answered.
func (n *Node) answer() api.Errno {
	n.waits = slices.DeleteFunc(n.waits, func(w wait) bool {
		a, can := n.answerOf(w)
		if can {
			n.answers = append(n.answers, a)
		}
		return can
	})
	return api.OK
}

// answerOf answers what is told of w, and whether it can be.
func (n *Node) answerOf(w wait) (api.Answer, bool) {
	a := w.answer
	switch {
	case n.raft.Role() != api.RoleLeader || n.raft.Brief().Term != w.term:
		return api.Answer{Session: a.Session, Number: a.Number, Read: a.Read, Code: api.ErrLeader}, true
	case n.state.Index() < w.last || w.round > 0 && !n.raft.Sure(w.round):
		return api.Answer{}, false
	case a.Read:
		a.Value, a.Code = n.state.Find(w.coll, w.id)
		a.Index = n.state.Index()
	}
	return a, true
}
