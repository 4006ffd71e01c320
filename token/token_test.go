package token_test

import (
	"math"
	"testing"

	"tributary/api"
	"tributary/sample"
	"tributary/token"
)

// entry, end are tokens of the two kinds.
func entry(index, term int) api.Token {
	return api.Token{Kind: api.TokenEntry, Index: index, Term: term}
}

func end(index, term int) api.Token {
	return api.Token{Kind: api.TokenEnd, Index: index, Term: term}
}

// good are tokens that may be.
func good() []api.Token {
	return []api.Token{
		entry(0, 0), entry(1, 1), entry(5, 2), entry(2, 5), entry(127, 128), entry(1<<40, 1), entry(1, 1<<40), entry(1<<40, 1<<40), entry(1<<40-1, 1<<32),
		end(1, 1), end(5, 2), end(300, 1), end(1<<40, 1), end(1, 1<<40), end(1<<40, 1<<40),
	}
}

// wrong are tokens that may not be.
func wrong() []api.Token {
	l := []api.Token{
		entry(0, 1), entry(1, 0), entry(0, 1<<40), entry(1<<40, 0), end(0, 0), end(0, 1), end(1, 0),
		entry(-1, -1), entry(-1, 1), entry(1, -1), entry(-1, 0), entry(0, -1), end(-1, -1), end(-1, 1), end(1, -1),
		entry(1<<40+1, 1), entry(1, 1<<40+1), entry(1<<40+1, 1<<40+1), end(1<<40+1, 1), end(1, 1<<40+1),
		entry(math.MaxInt, 1), entry(1, math.MaxInt), entry(math.MinInt, 1), entry(1, math.MinInt), entry(math.MinInt, math.MinInt), entry(1<<32+1<<40, 1),
	}
	for _, kind := range []int{0, 3, 4, -1, 255, 256, 257, 258, 1 + 1<<32, math.MaxInt, math.MinInt} {
		l = append(l, api.Token{Kind: kind, Index: 1, Term: 1}, api.Token{Kind: kind})
	}
	return l
}

// P18.1: May.

func TestMay(t *testing.T) {
	for _, x := range good() {
		if !token.May(x) {
			t.Errorf("%v may not be", x)
		}
	}
	for _, x := range wrong() {
		if token.May(x) {
			t.Errorf("%v may be", x)
		}
	}
}

// P18.2: Home, Behind, of parts of logs.

// part is a log's part.
type part struct {
	first, base int
	l           []api.Entry
}

// partOf answers a part of entries of those terms.
func partOf(first, base int, terms ...int) part {
	p := part{first: first, base: base}
	for i, term := range terms {
		p.l = append(p.l, sample.By(sample.Create(string(rune('a'+i))), term, 0, 0))
	}
	return p
}

// home asks for Home, and whether the entries stay as they are.
func (p part) home(t *testing.T, x api.Token, want api.Errno) {
	t.Helper()
	if got := token.Home(x, p.first, p.base, p.l); got != want {
		t.Errorf("Home(%v, %d, %d, %d entries) = %d, want %d", x, p.first, p.base, len(p.l), got, want)
	}
}

// behind asks for Behind.
func (p part) behind(t *testing.T, i int, want api.Token, no api.Errno) {
	t.Helper()
	if got, e := token.Behind(i, p.first, p.base, p.l); got != want || e != no {
		t.Errorf("Behind(%d, %d, %d, %d entries) = %v, %d, want %v, %d", i, p.first, p.base, len(p.l), got, e, want, no)
	}
}

func TestHome(t *testing.T) {
	whole, late, empty := partOf(1, 0, 1, 1, 3), partOf(6, 2, 2, 4), partOf(6, 2)
	for _, c := range []struct {
		p    part
		x    api.Token
		want api.Errno
	}{
		{whole, entry(0, 0), api.OK}, {whole, entry(1, 1), api.OK}, {whole, entry(2, 1), api.OK}, {whole, entry(3, 3), api.OK}, {whole, end(1, 1), api.OK}, {whole, end(3, 3), api.OK},
		{whole, entry(1, 2), api.ErrToken}, {whole, entry(3, 1), api.ErrToken}, {whole, end(2, 3), api.ErrToken}, {whole, entry(4, 3), api.ErrToken}, {whole, entry(4, 4), api.ErrToken}, {whole, entry(1<<40, 3), api.ErrToken}, {whole, end(0, 0), api.ErrToken},
		{late, entry(5, 2), api.OK}, {late, end(5, 2), api.OK}, {late, entry(6, 2), api.OK}, {late, end(6, 2), api.OK}, {late, entry(7, 4), api.OK},
		{late, entry(5, 1), api.ErrToken}, {late, entry(5, 3), api.ErrToken}, {late, entry(6, 4), api.ErrToken}, {late, entry(7, 2), api.ErrToken}, {late, entry(8, 4), api.ErrToken}, {late, end(8, 2), api.ErrToken},
		{late, entry(4, 2), api.ErrGone}, {late, end(4, 2), api.ErrGone}, {late, entry(0, 0), api.ErrGone}, {late, entry(1, 1), api.ErrGone}, {late, entry(4, 1<<40), api.ErrGone},
		{empty, entry(5, 2), api.OK}, {empty, entry(5, 1), api.ErrToken}, {empty, entry(6, 2), api.ErrToken}, {empty, entry(4, 2), api.ErrGone}, {empty, end(0, 0), api.ErrToken},
		// It goes by the base that is given, also where none of that term can be.
		{partOf(1, 4), entry(0, 0), api.ErrToken}, {partOf(6, 0), entry(5, 2), api.ErrToken}, {partOf(6, -1), entry(5, 2), api.ErrToken}, {partOf(1, -1), entry(0, 0), api.ErrToken},
		// Entries that may not be have no token at home.
		{partOf(1, 0, 0, -1, 1<<40+1), entry(1, 1), api.ErrToken}, {partOf(1, 0, 0, -1, 1<<40+1), entry(2, 1), api.ErrToken}, {partOf(1, 0, 0, -1, 1<<40+1), entry(3, 1<<40), api.ErrToken},
		{partOf(1<<40, 7, 1<<40), entry(1<<40, 1<<40), api.OK}, {partOf(1<<40, 7, 1<<40), entry(1<<40-1, 7), api.OK}, {partOf(1<<40+1, 7, 8), entry(1<<40, 7), api.OK}, {partOf(1<<40+1, 7, 8), entry(1<<40, 8), api.ErrToken}, {partOf(1<<40+2, 7, 8), entry(1<<40, 7), api.ErrGone},
		{partOf(math.MaxInt, 1, 1, 1), entry(1<<40, 1), api.ErrGone}, {partOf(math.MaxInt, 1, 1, 1), end(0, 0), api.ErrToken},
	} {
		c.p.home(t, c.x, c.want)
	}
}

func TestHomeOfWhatMayNotBe(t *testing.T) {
	for _, first := range []int{0, -1, -1 << 40, math.MinInt} {
		for _, x := range append(good(), wrong()...) {
			partOf(first, 1, 1, 1).home(t, x, api.ErrArg)
			partOf(first, 0).home(t, x, api.ErrArg)
		}
	}
	for _, x := range wrong() {
		for _, first := range []int{1, 2, 1 << 40, math.MaxInt} {
			partOf(first, x.Term, x.Term, x.Term, x.Term).home(t, x, api.ErrToken)
		}
	}
}

func TestBehind(t *testing.T) {
	none := api.Token{}
	whole, late, empty := partOf(1, 0, 1, 1, 3), partOf(6, 2, 2, 4), partOf(6, 2)
	for _, c := range []struct {
		p    part
		i    int
		want api.Token
		no   api.Errno
	}{
		{whole, 0, entry(0, 0), api.OK}, {whole, 1, entry(1, 1), api.OK}, {whole, 2, entry(2, 1), api.OK}, {whole, 3, entry(3, 3), api.OK},
		{whole, 4, none, api.ErrNone}, {whole, 1 << 40, none, api.ErrNone}, {whole, math.MaxInt, none, api.ErrNone}, {whole, -1, none, api.ErrGone}, {whole, math.MinInt, none, api.ErrGone},
		{late, 5, entry(5, 2), api.OK}, {late, 6, entry(6, 2), api.OK}, {late, 7, entry(7, 4), api.OK},
		{late, 8, none, api.ErrNone}, {late, math.MaxInt, none, api.ErrNone}, {late, 4, none, api.ErrGone}, {late, 0, none, api.ErrGone}, {late, -1, none, api.ErrGone}, {late, math.MinInt, none, api.ErrGone},
		{empty, 5, entry(5, 2), api.OK}, {empty, 6, none, api.ErrNone}, {empty, 4, none, api.ErrGone}, {partOf(1, 0), 0, entry(0, 0), api.OK}, {partOf(1, 0), 1, none, api.ErrNone},
		// It goes by the base, and the entries, that are given.
		{partOf(1, 4), 0, entry(0, 4), api.OK}, {partOf(6, 0), 5, entry(5, 0), api.OK}, {partOf(6, 2, 0, 1<<40+1), 6, entry(6, 0), api.OK}, {partOf(6, 2, 0, 1<<40+1), 7, entry(7, 1<<40+1), api.OK},
		{partOf(math.MaxInt, 1, 2, 3), math.MaxInt - 1, entry(math.MaxInt-1, 1), api.OK}, {partOf(math.MaxInt, 1, 2, 3), math.MaxInt, entry(math.MaxInt, 2), api.OK}, {partOf(math.MaxInt, 1), math.MaxInt, none, api.ErrNone}, {partOf(math.MaxInt, 1, 2), math.MinInt, none, api.ErrGone},
	} {
		c.p.behind(t, c.i, c.want, c.no)
	}
	for _, first := range []int{0, -1, math.MinInt} {
		for _, i := range []int{-2, -1, 0, 1, math.MinInt, math.MaxInt, first} {
			partOf(first, 1, 1, 1).behind(t, i, none, api.ErrArg)
		}
	}
}

// P18.2, P18.3: all small parts and tokens, against the chapter's words.

// terms are the terms that p has by their indexes, as far as they are known.
func (p part) terms() map[int]int {
	known := map[int]int{p.first - 1: p.base}
	for i, e := range p.l {
		known[p.first+i] = e.Term
	}
	return known
}

// each shows all parts of few entries.
func each(show func(p part)) {
	for first := 1; first <= 4; first++ {
		for base := range 3 {
			for n := range 27 {
				terms := []int{n % 3, n / 3 % 3, n / 9}
				for size := range 4 {
					p := partOf(first, base, terms...)
					// What lies behind the list's end is no entry.
					p.l = p.l[:size]
					show(p)
				}
			}
		}
	}
}

func TestHomeOfSmallParts(t *testing.T) {
	found := map[api.Errno]int{}
	each(func(p part) {
		known := p.terms()
		for n := range 4 * 9 * 5 {
			x := api.Token{Kind: n % 4, Index: n/4%9 - 1, Term: n/36 - 1}
			term, there := known[x.Index]
			want := api.OK
			switch {
			case !token.May(x):
				want = api.ErrToken
			case x.Index < p.first-1:
				want = api.ErrGone
			case !there || term != x.Term:
				want = api.ErrToken
			}
			p.home(t, x, want)
			found[want]++
		}
	})
	if found[api.OK] < 1000 || found[api.ErrGone] < 1000 || found[api.ErrToken] < 1000 {
		t.Error("just so many:", found)
	}
}

func TestATokenBehindAnEntryIsAtHome(t *testing.T) {
	found := 0
	each(func(p part) {
		known := p.terms()
		for i := -1; i < 9; i++ {
			term, there := known[i]
			switch {
			case i < p.first-1:
				p.behind(t, i, api.Token{}, api.ErrGone)
			case !there:
				p.behind(t, i, api.Token{}, api.ErrNone)
			default:
				x := entry(i, term)
				p.behind(t, i, x, api.OK)
				if token.May(x) {
					p.home(t, x, api.OK)
					found++
				}
			}
		}
	})
	if found < 1000 {
		t.Error("just so many tokens:", found)
	}
}

// Memory.

func TestEntriesAreNotChanged(t *testing.T) {
	was := sample.By(sample.Insert("c", sample.Item(sample.Array(sample.Null()))), 3, 1, 1)
	l := []api.Entry{sample.RoomyEntry(was), sample.RoomyEntry(was)}
	token.Home(entry(5, 3), 5, 1, l[:1])
	token.Behind(5, 5, 1, l[:1])
	token.Behind(6, 5, 1, l[:1])
	for _, e := range l {
		if !sample.AlikeEntries(e, was) || !sample.UntouchedEntry(e, was) {
			t.Error("entries are changed")
		}
	}
}
