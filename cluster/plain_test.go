package cluster_test

import (
	"fmt"
	"math"
	"slices"
	"testing"

	"tributary/api"
	"tributary/cluster"
	"tributary/cursor"
	"tributary/files"
	"tributary/node"
	"tributary/sample"
)

// P26.1: a cluster of its own, by the chapter's words, against which steps of all kinds are held.

type plain struct {
	nodes   int
	keep    int
	disks   []*files.Disk
	up      []*node.Node
	bag     []api.Msg
	cursors map[int]*cursor.Cursor
}

func plainOf(nodes, keep int) *plain {
	p := &plain{nodes: nodes, keep: keep, cursors: map[int]*cursor.Cursor{}}
	for id := range nodes {
		d := files.New()
		n, _ := node.Boot(d, id, nodes, keep)
		p.disks, p.up = append(p.disks, d), append(p.up, n)
	}
	return p
}

// put puts what a call sends into the bag.
func (p *plain) put(l []api.Msg, e api.Errno) api.Errno {
	p.bag = append(p.bag, l...)
	p.bag = p.bag[max(len(p.bag)-256, 0):]
	return e
}

// works tells whether a node is up, and not dead.
func (p *plain) works(id int) bool { return p.up[id] != nil && !p.up[id].Dead() }

// do does a step, and answers what it shows.
func (p *plain) do(a api.Act) api.Told {
	told := api.Told{}
	if a.Kind < 1 || a.Kind > 14 {
		told.Code = api.ErrArg
	} else if a.Kind == api.ActArrive || a.Kind == api.ActCopy || a.Kind == api.ActLose {
		told.Code = p.message(a)
	} else if a.Node < 0 || a.Node >= p.nodes {
		told.Code = api.ErrNone
	} else if a.Kind == api.ActStop || a.Kind == api.ActCrash || a.Kind == api.ActBoot || a.Kind == api.ActCut {
		told.Code = p.machine(a)
	} else if !p.works(a.Node) {
		told.Code = api.ErrOff
	} else if a.Kind == api.ActOpen || a.Kind == api.ActAfter || a.Kind == api.ActPoll {
		told.Events, told.Code = p.stream(a)
	} else {
		told.Code = p.call(a)
	}
	for id, n := range p.up {
		if n != nil {
			for _, x := range n.Answers() {
				told.Nodes, told.Answers = append(told.Nodes, id), append(told.Answers, x)
			}
		}
	}
	return told
}

// message does a step of a message.
func (p *plain) message(a api.Act) api.Errno {
	if a.N < 0 || a.N >= len(p.bag) {
		return api.ErrNone
	}
	m := p.bag[a.N]
	if a.Kind != api.ActCopy {
		p.bag = slices.Delete(slices.Clone(p.bag), a.N, a.N+1)
	}
	if a.Kind == api.ActLose || !p.works(m.To) {
		return api.OK
	}
	return p.put(p.up[m.To].Step(m))
}

// machine does a step that is done to a node that is not up, too.
func (p *plain) machine(a api.Act) api.Errno {
	d := p.disks[a.Node]
	switch a.Kind {
	case api.ActStop:
		return d.Stop(a.N, a.M)
	case api.ActCut:
		p.bag = slices.DeleteFunc(slices.Clone(p.bag), func(m api.Msg) bool { return m.From == a.Node || m.To == a.Node })
		return api.OK
	case api.ActCrash:
		e := d.Crash(a.Keep)
		if e == api.OK {
			p.up[a.Node] = nil
		}
		return e
	}
	if p.works(a.Node) {
		return api.ErrTwice
	}
	n, e := node.Boot(d, a.Node, p.nodes, p.keep)
	if e == api.OK {
		p.up[a.Node] = n
	}
	return e
}

// call does a step that is a call of a node.
func (p *plain) call(a api.Act) api.Errno {
	n := p.up[a.Node]
	switch a.Kind {
	case api.ActTick:
		return p.put(n.Tick())
	case api.ActAsk:
		return p.put(n.Ask(a.Ask))
	case api.ActFind:
		return p.put(n.Find(a.Ask.Session, a.Ask.Number, a.Ask.Coll, a.Ask.Id))
	}
	return n.Compact()
}

// stream does a step of a cursor.
func (p *plain) stream(a api.Act) ([]api.Event, api.Errno) {
	n := p.up[a.Node]
	first, base, l := n.Log()
	if a.Kind == api.ActPoll {
		if p.cursors[a.Cursor] == nil {
			return nil, api.ErrNone
		}
		return p.cursors[a.Cursor].Next(first, l, n.State().Images(), a.N)
	}
	if a.Cursor < 0 || a.Cursor > 15 {
		return nil, api.ErrNone
	}
	var c *cursor.Cursor
	var e api.Errno
	switch {
	case a.Kind == api.ActAfter && a.M == 0:
		c, e = cursor.After(a.Filter, a.Token, first, base, l)
	case a.Kind == api.ActAfter:
		c, e = cursor.StartAfter(a.Filter, a.Token, first, base, l)
	case a.N == 0:
		c, e = cursor.At(a.Filter, first+len(l))
	default:
		c, e = cursor.At(a.Filter, a.N)
	}
	if e == api.OK {
		p.cursors[a.Cursor] = c
	}
	return nil, e
}

// tale tells all of it, as tale tells it of a cluster.
func (p *plain) tale() string {
	var s []byte
	for id := range 8 {
		up, status, first, base, l, b := false, api.Status{}, 0, 0, []api.Entry(nil), []byte(nil)
		if id < p.nodes && p.works(id) {
			up, status, b = true, p.up[id].Status(), p.up[id].State().Base()
			first, base, l = p.up[id].Log()
		}
		s = fmt.Appendf(s, "node %d: %t %+v %d %d %+v %q\n", id, up, status, first, base, l, b)
	}
	m, e := api.Msg{}, api.ErrNone
	if len(p.bag) > 0 {
		m, e = p.bag[0], api.OK
	}
	s = fmt.Appendf(s, "bag: %d %+v %d\n", len(p.bag), m, e)
	for place := range 16 {
		s = fmt.Appendf(s, "%q ", p.cursors[place].Token())
	}
	return string(s)
}

// anyOf answers some of the steps that a watch does, or others, of which many are refused.
func (w *watch) anyOf(c *sample.Chance) []api.Act {
	if c.Below(4) > 0 {
		return w.any(c)
	}
	odd := []int{-1, 0, 1, 2, 3, 6, 7, 15, 16, 63, 64, 65, 255, 256, math.MinInt, math.MaxInt, 1 << 32}
	pick := func() int { return odd[c.Below(len(odd))] }
	a := api.Act{Kind: c.Below(16), Node: c.Below(w.c.Nodes()), N: c.Below(9), M: c.Below(3), Cursor: c.Below(16), Ask: w.anyAsk(c), Filter: filters()[c.Below(8)], Token: w.anyToken(c), Keep: anyKeep(c)}
	switch c.Below(12) {
	case 0:
		a.Kind = pick()
	case 1:
		a.Node = pick()
	case 2:
		a.N = pick()
	case 3:
		a.M = pick()
	case 4:
		a.Cursor = pick()
	case 5:
		a.Ask.Session = pick()
	case 6:
		a.Ask.Number = pick()
	case 7:
		a.Keep = append(a.Keep, api.Keep{})
	}
	return []api.Act{a}
}

func TestStepsAgainstTheWords(t *testing.T) {
	found, chance := map[string]int{}, sample.Chance(263)
	for range 60 {
		nodes, keep := 1+chance.Below(7), chance.Below(6)
		w, p := watchOf(t, nodes, keep, found), plainOf(nodes, keep)
		for range 1500 {
			for _, a := range w.anyOf(&chance) {
				want, got := p.do(a), w.do(a)
				if !sample.AlikeTold(got, want) {
					t.Fatalf("%s shows %s, want %s", show(a), show(got), show(want))
				}
				if chance.Below(9) == 0 && tale(w.c) != p.tale() {
					t.Fatalf("behind %s it is %.2000s, want %.2000s", show(a), tale(w.c), p.tale())
				}
			}
		}
	}
	for kind := 1; kind <= 14; kind++ {
		codes := []api.Errno{api.OK}
		switch kind {
		case api.ActArrive, api.ActCopy, api.ActLose:
			codes = append(codes, api.ErrNone)
		case api.ActCut, api.ActStop, api.ActCrash, api.ActBoot:
			codes = append(codes, api.ErrNone)
		default:
			codes = append(codes, api.ErrNone, api.ErrOff)
		}
		codes = append(codes, map[int][]api.Errno{
			api.ActAsk: {api.ErrLeader, api.ErrOld, api.ErrDead, api.ErrArg}, api.ActFind: {api.ErrLeader, api.ErrArg}, api.ActCompact: {api.ErrArg},
			api.ActStop: {api.ErrArg}, api.ActCrash: {api.ErrArg}, api.ActBoot: {api.ErrTwice, api.ErrOff},
			api.ActOpen: {api.ErrArg}, api.ActPoll: {api.ErrArg, api.ErrGone, api.ErrEnded}, api.ActAfter: {api.ErrArg, api.ErrToken, api.ErrGone},
		}[kind]...)
		for _, code := range codes {
			if what := fmt.Sprint("kind ", kind, " shows ", code); found[what] == 0 {
				t.Errorf("none of %s", what)
			}
		}
	}
}

// R2: what is refused has changed nothing: without it all goes on in the same way.
func TestWhatIsRefusedChangesNothing(t *testing.T) {
	found, chance := map[string]int{}, sample.Chance(264)
	refused := 0
	for range 40 {
		nodes, keep := 1+chance.Below(7), chance.Below(6)
		w := watchOf(t, nodes, keep, found)
		twin, e := cluster.New(nodes, keep)
		if e != api.OK {
			t.Fatalf("New: %d", e)
		}
		for range 500 {
			for _, a := range w.anyOf(&chance) {
				got := w.do(a)
				// Disks may be other ones behind a boot, and behind what made a node dead.
				if got.Code != api.OK && got.Code != api.ErrDead && a.Kind != api.ActBoot {
					refused++
					continue
				}
				if want := twin.Do(a); !sample.AlikeTold(got, want) {
					t.Fatalf("%s shows %s, without what was refused %s", show(a), show(got), show(want))
				}
			}
		}
		alike(t, "without what was refused", w.c, twin)
	}
	if refused < 1000 {
		t.Errorf("just %d were refused", refused)
	}
}
