package raft

import (
	"slices"

	"tributary/api"
	"tributary/entry"
	"tributary/parts"
)

// log is entries by their indexes, from first on; base is the term of the one ahead.
type log struct {
	first, base int
	entries     []api.Entry
}

func (l *log) last() int { return l.first + len(l.entries) - 1 }

// full tells whether there is no room for one more entry.
func (l *log) full() bool { return len(l.entries) >= api.MaxLog }

func (l *log) has(i int) bool { return within(i, l.first, l.last()) }

// at answers the entry i, which is there.
func (l *log) at(i int) *api.Entry { return &l.entries[i-l.first] }

// termAt answers the term of the entry i, or of the one ahead of the first, and whether it is known.
func (l *log) termAt(i int) (int, bool) {
	switch {
	case i == l.first-1:
		return l.base, true
	case !l.has(i):
		return 0, false
	}
	return l.at(i).Term, true
}

// lastTerm answers the term of the last entry.
func (l *log) lastTerm() int {
	term, _ := l.termAt(l.last())
	return term
}

// from answers copies of the entries from index i on, at most so many; i is not below first.
func (l *log) from(i, most int) []api.Entry {
	rest := l.entries[i-l.first:]
	return parts.CopyEach(rest[:min(most, len(rest))], entry.Clone)
}

// stands answers how many of the entries more are there behind index i, with their terms, one behind the other.
func (l *log) stands(i int, more []api.Entry) int {
	for n, e := range more {
		if term, known := l.termAt(i + 1 + n); !known || term != e.Term {
			return n
		}
	}
	return len(more)
}

// put cuts the log behind index i, and puts copies of the entries more there, as many as there is room for.
func (l *log) put(i int, more ...api.Entry) {
	kept := l.entries[:i+1-l.first]
	more = more[:min(len(more), api.MaxLog-len(kept))]
	l.entries = append(kept, parts.CopyEach(more, entry.Clone)...)
}

// drop takes the entries up to index i away, of which the last one is there.
func (l *log) drop(i int) {
	l.base = l.at(i).Term
	l.entries = slices.Clone(l.entries[i+1-l.first:])
	l.first = i + 1
}
