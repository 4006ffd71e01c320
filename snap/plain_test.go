package snap_test

import (
	"slices"
	"testing"

	"tributary/api"
	"tributary/apply"
	"tributary/coll"
	"tributary/image"
	"tributary/sample"
	"tributary/snap"
	"tributary/varint"
)

// known is what was there ahead of an entry.
type known struct {
	v  api.Value
	is bool
}

// plain is a state, plainly: all that was ever done, and the database that it made.
type plain struct {
	keep int
	done []api.Entry
	past []known
	db   *coll.DB
}

// before is a state in which nothing was done.
func before(keep int) *plain { return &plain{keep: keep, db: coll.New()} }

// copied answers the same, and another one.
func (p *plain) copied() *plain {
	return &plain{p.keep, slices.Clone(p.done), slices.Clone(p.past), p.db.Fork()}
}

// do does an entry that is not refused.
func (p *plain) do(t *testing.T, e api.Entry) {
	t.Helper()
	v, is := apply.Before(p.db, e)
	want(t, "what is meant by "+show(e), apply.Do(p.db, e), api.OK)
	p.done, p.past = append(p.done, e), append(p.past, known{v, is})
}

// term is that of the last entry.
func (p *plain) term() int {
	if len(p.done) == 0 {
		return 0
	}
	return p.done[len(p.done)-1].Term
}

// last is the greatest number of each session.
func (p *plain) last() [api.MaxSession + 1]int {
	var l [api.MaxSession + 1]int
	for _, e := range p.done {
		l[e.Session] = max(l[e.Session], e.Number)
	}
	l[0] = 0
	return l
}

// pre is what is known of the document ahead of the entry i.
func (p *plain) pre(i int) (api.Value, int, api.Errno) {
	switch {
	case i < 1 || i > len(p.done):
		return api.Value{}, 0, api.ErrNone
	case i <= len(p.done)-p.keep:
		return api.Value{}, api.ImageExpired, api.OK
	case !p.past[i-1].is:
		return api.Value{}, api.ImageNone, api.OK
	}
	return p.past[i-1].v, api.ImageHere, api.OK
}

// count is a count's code.
func count(n int) string {
	b, _ := varint.Count(n)
	return string(b)
}

// code is the snapshot, as the chapter's words say.
func (p *plain) code() string {
	m, _ := image.New(p.keep, 0)
	for _, k := range p.past {
		m.Note(k.v, k.is)
	}
	n, numbers := 0, ""
	for session, number := range p.last() {
		if number != 0 {
			n++
			numbers += count(session) + count(number)
		}
	}
	return count(len(p.done)) + count(p.term()) + string(m.Code()) + count(n) + numbers + string(p.db.Code())
}

// agree asks whether a state is as the plain one says, by all calls that tell.
func agree(t *testing.T, x *snap.State, p *plain) {
	t.Helper()
	if x.Index() != len(p.done) || x.Term() != p.term() {
		t.Fatalf("Index, Term = %d, %d, want %d, %d", x.Index(), x.Term(), len(p.done), p.term())
	}
	for session, number := range p.last() {
		if got := x.Last(session); got != number {
			t.Fatalf("Last(%d) = %d, want %d", session, got, number)
		}
	}
	if string(x.Base()) != string(p.db.Code()) || string(x.Code()) != p.code() {
		t.Fatalf("Base() = %q, Code() = %q, want %q, %q", show(x.Base()), show(x.Code()), show(p.db.Code()), show(p.code()))
	}
	agreePast(t, x, p)
	for _, name := range append(p.db.Names(), "none", "") {
		for _, id := range []api.Value{null, number(1), number(2), text("t"), array(null), one("k", null), {}} {
			v, e := x.Find(name, id)
			if wanted, no := p.db.Find(name, id); e != no || !alike(v, wanted) {
				t.Fatalf("Find(%s, %s) = %s, %d, want %s, %d", name, show(id), show(v), e, show(wanted), no)
			}
		}
	}
}

// agreePast asks whether the state's images are as the plain one says.
func agreePast(t *testing.T, x *snap.State, p *plain) {
	t.Helper()
	m := x.Images()
	if m.Top() != len(p.done) {
		t.Fatalf("the images' top is %d, want %d", m.Top(), len(p.done))
	}
	for i := -1; i <= len(p.done)+1; i++ {
		v, kind, e := x.Pre(i)
		wanted, wantedKind, no := p.pre(i)
		if e != no || kind != wantedKind || !alike(v, wanted) {
			t.Fatalf("Pre(%d) = %s, %d, %d, want %s, %d, %d", i, show(v), kind, e, show(wanted), wantedKind, no)
		}
		v, kind, e = m.Get(i)
		if e != no || kind != wantedKind || !alike(v, wanted) {
			t.Fatalf("the images' Get(%d) = %s, %d, %d", i, show(v), kind, e)
		}
	}
}

// P17.3: states by entries that chance makes, always the same ones; what was done is the fold of the entries; a state that was loaded goes on.

// updates are some that requests ask for.
func updates() []api.Spec {
	op := sample.Op
	return []api.Spec{
		sample.Ops(op(api.OpInc, "a", number(3))), sample.Ops(op(api.OpSet, "a", array(null))), sample.Ops(op(api.OpPush, "a", number(1))), sample.Ops(op(api.OpSet, "b.c", null), sample.Unset("a")),
		sample.Ops(sample.Rename("a", "b.d")), sample.Replace(one("a", number(5))), sample.Replace(doc(nil)), {},
	}
}

// anyEntry makes an entry: of a request, where that is not refused, one that was done already, or one of history.
func anyEntry(chance *sample.Chance, x *snap.State, p *plain, all []api.Spec) api.Entry {
	e, no := x.Lower(chance.Ask(all))
	switch {
	case chance.Below(12) == 0 && len(p.done) > 0:
		e = p.done[chance.Below(len(p.done))]
	case no != api.OK:
		l := history()
		e = l[chance.Below(len(l))]
	}
	if chance.Below(9) == 0 && e.Kind != api.EntryNoop {
		e.Session, e.Number = []int{0, 1, 2, 254, 255, 256}[chance.Below(6)], chance.Below(3)*(1<<39)
	}
	e.Term = p.term() + chance.Below(10)/9
	e.Term = max(e.Term, 1)
	return e
}

func TestStatesByChance(t *testing.T) {
	chance, all, found := sample.Chance(21), updates(), map[api.Errno]int{}
	loaded := 0
	for range 60 {
		keep := chance.Below(1 + chance.Below(api.MaxKeep+1))
		states, plains := []*snap.State{made(t, keep)}, []*plain{before(keep)}
		for range 150 {
			k := chance.Below(len(states))
			x, p := states[k], plains[k]
			switch chance.Below(40) {
			case 0:
				states, plains = append(states, x.Fork()), append(plains, p.copied())
			case 1, 2:
				again, e := snap.Load(x.Code())
				want(t, "Load", e, api.OK)
				states[k] = again
				loaded++
			default:
				e := anyEntry(&chance, x, p, all)
				no := x.Do(e)
				found[no]++
				if no == api.OK {
					p.do(t, e)
				} else {
					want(t, "Do of "+show(e), no, apply.Do(p.db.Fork(), e))
				}
			}
			if chance.Below(10) == 0 {
				agree(t, states[k], p)
			}
		}
		for k, x := range states {
			agree(t, x, plains[k])
			fold, e := apply.Fold(plains[k].done)
			if e != api.OK || string(fold.Code()) != string(x.Base()) {
				t.Fatalf("the fold of %d entries is not what they made", x.Index())
			}
		}
	}
	for _, no := range []api.Errno{api.OK, api.ErrArg, api.ErrTwice, api.ErrNone, api.ErrColl} {
		if found[no] < 10 {
			t.Errorf("just so many of %d: %d", no, found[no])
		}
	}
	if loaded < 100 {
		t.Error("just so many were loaded:", loaded)
	}
}
