package raft_test

import (
	"fmt"
	"slices"
	"strings"
	"testing"

	"tributary/api"
	"tributary/msg"
	"tributary/raft"
	"tributary/sample"
)

// P23.1 to P23.3: nodes against what the chapter's words say, done plainly.

// plain is a node, as the chapter's words say.
type plain struct {
	id, nodes, term, vote, role, leads, clock int
	first, base, commit                       int
	l                                         []api.Entry
	snap, took                                string
	changed                                   int
	voted                                     map[int]bool
	next, match, rounds                       map[int]int
	round                                     int
	out                                       []api.Msg
}

func plainOf(s api.Start) *plain {
	return &plain{id: s.Id, nodes: s.Nodes, term: s.Term, vote: s.Vote, role: follower, leads: nobody, first: s.First, base: s.Base, commit: s.Commit, l: slices.Clone(s.Entries)}
}

func (p *plain) state() api.Start {
	return api.Start{Id: p.id, Nodes: p.nodes, Term: p.term, Vote: p.vote, First: p.first, Base: p.base, Entries: p.l, Commit: p.commit}
}

func (p *plain) last() int { return p.first - 1 + len(p.l) }

// termOf is -1 of an index that is not there.
func (p *plain) termOf(i int) int {
	if i == p.first-1 {
		return p.base
	}
	if i < p.first || i > p.last() {
		return -1
	}
	return p.l[i-p.first].Term
}

func (p *plain) put(m api.Msg) {
	m.From, m.Term = p.id, p.term
	p.out = append(p.out, m)
}

func (p *plain) change(i int) {
	if p.changed == 0 || i < p.changed {
		p.changed = i
	}
}

func (p *plain) tick() {
	p.clock++
	if p.role == leader {
		if p.clock >= 3 {
			p.clock = 0
			p.sendAll()
		}
		return
	}
	if p.clock < 10+4*p.id || p.term == mostTerm {
		return
	}
	p.clock, p.term, p.vote, p.role, p.leads = 0, p.term+1, p.id, candidate, nobody
	p.voted = map[int]bool{p.id: true}
	for node := range p.nodes {
		if node != p.id {
			p.put(api.Msg{Kind: 1, To: node, Index: p.last(), LogTerm: p.termOf(p.last())})
		}
	}
	p.lead()
}

// lead leads, if a majority voted.
func (p *plain) lead() {
	if 2*len(p.voted) <= p.nodes {
		return
	}
	p.role, p.leads, p.round = leader, p.id, 0
	p.next, p.match, p.rounds = map[int]int{}, map[int]int{}, map[int]int{}
	for node := range p.nodes {
		p.next[node] = p.last() + 1
	}
	if len(p.l) < 1024 {
		p.change(p.last() + 1)
		p.l = append(p.l, api.Entry{Term: p.term, Kind: api.EntryNoop})
	}
	p.sendAll()
	p.look()
}

func (p *plain) sendAll() {
	for node := range p.nodes {
		if node != p.id {
			p.send(node)
		}
	}
}

func (p *plain) send(node int) {
	next := p.next[node]
	if next < p.first {
		if p.snap != "" {
			p.put(api.Msg{Kind: 5, To: node, Index: p.first - 1, LogTerm: p.base, Snap: []byte(p.snap)})
		}
		return
	}
	m := api.Msg{Kind: 3, To: node, Index: next - 1, LogTerm: p.termOf(next - 1), Commit: p.commit, Round: p.round}
	for i := next; i <= p.last() && i < next+8; i++ {
		m.Entries = append(m.Entries, p.l[i-p.first])
	}
	p.put(m)
}

// look commits the greatest index of its term that a majority has.
func (p *plain) look() {
	p.match[p.id] = p.last()
	for i := p.last(); i > p.commit; i-- {
		n := 0
		for node := range p.nodes {
			if p.match[node] >= i {
				n++
			}
		}
		if 2*n > p.nodes && p.termOf(i) == p.term {
			p.commit = i
			return
		}
	}
}

func (p *plain) step(m api.Msg) {
	if m.Term > p.term {
		p.term, p.vote, p.role, p.leads = m.Term, nobody, follower, nobody
	}
	switch m.Kind {
	case 1:
		mine := p.termOf(p.last())
		ok := m.Term == p.term && (p.vote == nobody || p.vote == m.From) && (m.LogTerm > mine || m.LogTerm == mine && m.Index >= p.last())
		if ok {
			p.vote, p.clock = m.From, 0
		}
		p.put(api.Msg{Kind: 2, To: m.From, Ok: ok})
	case 2:
		if m.Term == p.term && m.Ok && p.role == candidate {
			p.voted[m.From] = true
			p.lead()
		}
	case 3, 5:
		if m.Term < p.term {
			p.put(api.Msg{Kind: 4, To: m.From})
			return
		}
		if p.role == leader {
			return
		}
		p.role, p.leads, p.clock = follower, m.From, 0
		if m.Kind == 3 {
			p.extend(m)
		} else {
			p.restore(m)
		}
	case 4:
		p.answered(m)
	}
}

func (p *plain) extend(m api.Msg) {
	answer := api.Msg{Kind: 4, To: m.From, Round: m.Round}
	index, l, passed := m.Index, m.Entries, false
	for index < p.first-1 && len(l) > 0 {
		index, l, passed = index+1, l[1:], true
	}
	if index > p.last() {
		answer.Index = p.last()
		p.put(answer)
		return
	}
	if index >= p.first-1 && !passed && p.termOf(index) != m.LogTerm {
		answer.Index = max(p.commit, p.first-1)
		for i := p.commit + 1; i < index; i++ {
			if p.termOf(i) != p.termOf(index) {
				answer.Index = i
			}
		}
		p.put(answer)
		return
	}
	whole, top := slices.Clone(p.l), index
	changed := 0
	for k, e := range l {
		i := index + 1 + k
		if changed == 0 && p.termOf(i) == e.Term {
			top = i
			continue
		}
		if changed == 0 {
			if i-p.first >= 1024 {
				break
			}
			if i <= p.commit || e.Term < p.termOf(i-1) {
				return
			}
			whole, changed = whole[:i-p.first], i
		}
		if len(whole) < 1024 {
			whole, top = append(whole, e), i
		}
	}
	p.l = whole
	if changed > 0 {
		p.change(changed)
	}
	p.commit = max(p.commit, min(m.Commit, top))
	answer.Ok, answer.Index = true, top
	p.put(answer)
}

func (p *plain) restore(m api.Msg) {
	answer := api.Msg{Kind: 4, To: m.From, Ok: true, Index: m.Index}
	if m.Index <= p.commit {
		answer.Index = p.commit
	} else if p.termOf(m.Index) == m.LogTerm {
		p.commit = m.Index
	} else {
		p.l, p.first, p.base, p.commit = nil, m.Index+1, m.LogTerm, m.Index
		p.snap, p.took = string(m.Snap), string(m.Snap)
	}
	p.put(answer)
}

func (p *plain) answered(m api.Msg) {
	if m.Term != p.term || p.role != leader {
		return
	}
	p.rounds[m.From] = max(p.rounds[m.From], m.Round)
	if !m.Ok {
		p.next[m.From] = max(min(p.next[m.From]-1, m.Index+1), p.match[m.From]+1)
		p.send(m.From)
		return
	}
	if m.Index > p.last() {
		return
	}
	p.match[m.From] = max(p.match[m.From], m.Index)
	p.next[m.From] = max(p.next[m.From], m.Index+1)
	p.look()
	if p.next[m.From] <= p.last() {
		p.send(m.From)
	}
}

func (p *plain) propose(e api.Entry) (int, api.Errno) {
	if p.role != leader {
		return 0, api.ErrLeader
	}
	if len(p.l) >= 960 {
		return 0, api.ErrFull
	}
	e.Term = p.term
	p.change(p.last() + 1)
	p.l = append(p.l, e)
	p.sendAll()
	p.look()
	return p.last(), api.OK
}

func (p *plain) sure(round int) bool {
	n := 0
	for node := range p.nodes {
		if node == p.id && p.round >= round || node != p.id && p.rounds[node] >= round {
			n++
		}
	}
	return p.role == leader && p.termOf(p.commit) == p.term && 2*n > p.nodes
}

func (p *plain) compact(index int, b string) api.Errno {
	if index < p.first || index > p.commit {
		return api.ErrArg
	}
	p.base, p.l, p.first, p.snap = p.termOf(index), slices.Clone(p.l[index+1-p.first:]), index+1, b
	return api.OK
}

// both are a node and its plain one, who are told the same.
type both struct {
	r *raft.Raft
	p *plain
	// past is what they were told.
	past []string
	made int
}

func (b *both) told(f string, x ...any) { b.past = append(b.past, fmt.Sprintf(f, x...)) }

// any tells both something by chance.
func (b *both) any(t *testing.T, c *sample.Chance) {
	t.Helper()
	b.p.out = nil
	var sent []api.Msg
	n := c.Below(40)
	if b.p.nodes == 1 {
		n = c.Below(19)
	}
	switch {
	case n < 12:
		ticks := 1 + c.Below(1+c.Below(15))
		b.told("Tick %d", ticks)
		for range ticks {
			b.p.tick()
			sent = append(sent, b.r.Tick()...)
		}
	case n < 15:
		b.made++
		b.told("Propose %d", b.made)
		i, l, e := b.r.Propose(of(c.Below(9), b.made))
		wantI, wantE := b.p.propose(of(0, b.made))
		if sent = l; i != wantI || e != wantE {
			b.fail(t, "Propose = %d, %d, want %d, %d", i, e, wantI, wantE)
		}
	case n == 15:
		b.told("Begin")
		round, l, e := b.r.Begin()
		if sent = l; b.p.role != leader {
			if round != 0 || e != api.ErrLeader {
				b.fail(t, "Begin = %d, %d", round, e)
			}
			break
		}
		b.p.round++
		b.p.sendAll()
		if round != b.p.round || e != api.OK {
			b.fail(t, "Begin = %d, %d, want %d", round, e, b.p.round)
		}
	case n == 16:
		index, snap := b.p.first-1+c.Below(len(b.p.l)+2), fmt.Sprint("compact", c.Below(100))
		b.told("Compact %d %s", index, snap)
		if e, want := b.r.Compact(index, []byte(snap)), b.p.compact(index, snap); e != want {
			b.fail(t, "Compact: %d, want %d", e, want)
		}
	case n == 17:
		want, snap := api.ErrArg, fmt.Sprint("hold", c.Below(100))
		b.told("Hold %s", snap)
		if b.p.first > 1 {
			want, b.p.snap = api.OK, snap
		}
		if e := b.r.Hold([]byte(snap)); e != want {
			b.fail(t, "Hold: %d, want %d", e, want)
		}
	case n == 18:
		b.told("Clean")
		b.r.Clean()
		b.p.changed, b.p.took = 0, ""
	default:
		m := b.message(c)
		b.told("Step %+v", m)
		l, e := b.r.Step(m)
		if e != api.OK {
			b.fail(t, "Step: %d", e)
		}
		sent = l
		b.p.step(m)
	}
	b.agree(t, sent)
}

func (b *both) fail(t *testing.T, f string, x ...any) {
	t.Helper()
	t.Fatalf("%s; behind %s", fmt.Sprintf(f, x...), strings.Join(b.past[max(0, len(b.past)-12):], "; "))
}

// message is one by chance, mostly of about the term and the log that there are.
func (b *both) message(c *sample.Chance) api.Msg {
	p := b.p
	term := max(1, p.term+c.Below(4)-2)
	if c.Below(3) > 0 {
		term = max(1, p.term)
	}
	m := api.Msg{Kind: 1 + c.Below(5), From: (p.id + 1 + c.Below(p.nodes-1)) % p.nodes, To: p.id, Term: term}
	index := max(0, p.last()-c.Below(12)+c.Below(3))
	near := func() int { return max(0, p.termOf(index)) }
	switch m.Kind {
	case 1:
		m.Index, m.LogTerm = index, max(0, p.term-c.Below(3))
	case 2:
		m.Ok = c.Below(4) > 0
	case 3:
		m.Index, m.LogTerm, m.Commit, m.Round = index, near(), p.commit+c.Below(4), c.Below(4)
		if c.Below(6) == 0 {
			m.LogTerm = c.Below(term + 1)
		}
		at := m.LogTerm
		for range c.Below(9) {
			index++
			if p.termOf(index) > at && c.Below(12) > 0 {
				at = p.termOf(index)
			} else if c.Below(10) == 0 {
				at++
			}
			if at <= term {
				b.made++
				m.Entries = append(m.Entries, of(at, b.made))
			}
		}
	case 4:
		m.Index, m.Round, m.Ok = index, c.Below(p.round+2), c.Below(3) > 0
	case 5:
		m.Index, m.LogTerm, m.Snap = max(1, index+c.Below(2)*c.Below(3)), min(term, max(1, near()+c.Below(4)/3)), []byte(fmt.Sprint("snap", c.Below(100)))
	}
	return m
}

// agree asks whether both sent the same, and are the same.
func (b *both) agree(t *testing.T, sent []api.Msg) {
	t.Helper()
	r, p := b.r, b.p
	if !slices.EqualFunc(sent, p.out, sample.AlikeMsgs) {
		b.fail(t, "sent is %s, want %s", show(sent), show(p.out))
	}
	for _, m := range sent {
		if !msg.May(m) && !(m.Kind == api.MsgSnap && m.LogTerm == 0) {
			b.fail(t, "sent is what may not be: %s", show(m))
		}
	}
	if s := r.State(); !sample.AlikeStarts(s, p.state()) {
		b.fail(t, "State() = %s, want %s", show(s), show(p.state()))
	}
	if _, e := raft.New(r.State()); e != api.OK {
		b.fail(t, "it is no start: %s", show(r.State()))
	}
	if r.Role() != p.role || r.Leader() != p.leads || r.Last() != p.last() || r.Changed() != p.changed || string(r.Took()) != p.took {
		b.fail(t, "role %d, leader %d, last %d, changed %d, took %q, want %d, %d, %d, %d, %q", r.Role(), r.Leader(), r.Last(), r.Changed(), r.Took(), p.role, p.leads, p.last(), p.changed, p.took)
	}
	for round := range 4 {
		if r.Sure(round) != p.sure(round) {
			b.fail(t, "Sure(%d) = %t", round, r.Sure(round))
		}
	}
}

// anyStart is a start by chance, of small numbers; some logs are as good as full.
func anyStart(c *sample.Chance) api.Start {
	s := api.Start{Nodes: 1 + c.Below(7), Term: c.Below(6), Vote: nobody, First: 1}
	s.Id = c.Below(s.Nodes)
	if c.Below(2) == 0 {
		s.Vote = c.Below(s.Nodes)
	}
	if c.Below(2) == 0 {
		s.First, s.Base = 2+c.Below(8), c.Below(s.Term+1)
	}
	n, term := c.Below(6), s.Base
	if c.Below(30) == 0 {
		n = 950 + c.Below(75)
	}
	for i := range n {
		if term < s.Term && c.Below(3) == 0 {
			term++
		}
		s.Entries = append(s.Entries, of(term, 1000+i))
	}
	s.Commit = s.First - 1 + c.Below(n+1)
	return s
}

func TestNodesByChance(t *testing.T) {
	chance, roles, kinds := sample.Chance(23), map[int]int{}, map[string]int{}
	for range 2000 {
		s := anyStart(&chance)
		b := &both{r: made(t, s), p: plainOf(s)}
		for range 60 {
			b.any(t, &chance)
			roles[b.p.role]++
			for _, m := range b.p.out {
				kinds[fmt.Sprint(m.Kind, m.Ok)]++
			}
		}
	}
	for role := follower; role <= leader; role++ {
		if roles[role] < 1000 {
			t.Errorf("just so many steps of role %d: %d", role, roles[role])
		}
	}
	for _, kind := range []string{"1 false", "2 false", "2 true", "3 false", "4 false", "4 true", "5 false"} {
		if kinds[kind] < 200 {
			t.Errorf("just so many messages %s: %d", kind, kinds[kind])
		}
	}
}
