package raft

import (
	"slices"

	"tributary/api"
	"tributary/entry"
)

// mayStart tells whether a node may begin so.
func mayStart(s api.Start) bool {
	return within(s.Nodes, 1, api.MaxNodes) && within(s.Id, 0, s.Nodes-1) &&
		within(s.Term, 0, api.MaxTerm) && within(s.Vote, api.NoNode, s.Nodes-1) &&
		within(s.First, 1, api.MaxFirst) && within(s.Base, 0, s.Term) && (s.First > 1 || s.Base == 0) &&
		mayLog(s) && within(s.Commit, s.First-1, s.First+len(s.Entries)-1)
}

// mayLog tells whether the entries of s may be its log.
func mayLog(s api.Start) bool {
	return len(s.Entries) <= api.MaxLog &&
		!slices.ContainsFunc(s.Entries, func(e api.Entry) bool { return !entry.May(e) }) &&
		rise(s.Entries, s.Base, s.Term)
}

// within tells whether n is least to most.
func within(n, least, most int) bool {
	return n >= least && n <= most
}

// rise tells whether the terms of l do not fall, and are least to most.
func rise(l []api.Entry, least, most int) bool {
	for _, e := range l {
		if !within(e.Term, least, most) {
			return false
		}
		least = e.Term
	}
	return true
}

// maySnap tells whether b may be a snapshot.
func maySnap(b []byte) bool {
	return within(len(b), 1, api.MaxBody)
}
