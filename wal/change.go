package wal

import (
	"iter"
	"slices"

	"tributary/api"
	"tributary/steps"
)

// load reads the segments; one that does not go on where the one ahead ended is removed, and all behind it.
func (w *Log) load() api.Errno {
	for k, s := range slices.All(w.segments) {
		if k > 0 && s.first != w.segments[k-1].next() {
			// The last one first: else what the power leaves of these could go on where the log ended.
			return w.removeFrom(k)
		}
		if e := s.load(); e != api.OK {
			return e
		}
	}
	return api.OK
}

// makeRoom makes a segment for the next body, if it needs one; the one ahead is sure then.
func (w *Log) makeRoom() api.Errno {
	addNext := func() api.Errno { return w.add(w.Next()) }
	switch {
	case !w.needsSegment():
		return api.OK
	case len(w.segments) == 0:
		return addNext()
	}
	return steps.Do(w.last().sync, addNext)
}

// add makes a segment behind the others.
func (w *Log) add(first int) api.Errno {
	s := &segment{disk: w.disk, first: first}
	if e := s.create(); e != api.OK {
		return e
	}
	w.segments = append(w.segments, s)
	return api.OK
}

// makeSure makes the last segment sure, and such ahead of it that are not, as a disk may have them that no log was on.
func (w *Log) makeSure() api.Errno {
	for s := range w.back(0) {
		if s != w.last() && s.isSure() {
			continue
		}
		if e := s.sync(); e != api.OK {
			return e
		}
	}
	return api.OK
}

// removeFrom removes the segments from the one at place k on, the last one first.
func (w *Log) removeFrom(k int) api.Errno {
	return w.remove(w.back(k), w.forgetLast)
}

// remove removes segments, each of which forget takes from the list.
func (w *Log) remove(l iter.Seq[*segment], forget func()) api.Errno {
	for s := range l {
		if e := s.remove(); e != api.OK {
			return e
		}
		forget()
	}
	return api.OK
}

func (w *Log) forgetFirst() { w.segments = w.segments[1:] }

func (w *Log) forgetLast() { w.segments = w.segments[:len(w.segments)-1] }

// back goes over the segments that there are now, the last one first, down to the one at place k.
func (w *Log) back(k int) iter.Seq[*segment] {
	return func(yield func(s *segment) bool) {
		for i, s := range slices.Backward(w.segments) {
			if i < k || !yield(s) {
				return
			}
		}
	}
}

// below goes over the segments that there are now all bodies of which are below index i, the first one first, without the last segment.
func (w *Log) below(i int) iter.Seq[*segment] {
	return func(yield func(s *segment) bool) {
		for _, s := range w.segments[:max(0, len(w.segments)-1)] {
			if s.next() > i || !yield(s) {
				return
			}
		}
	}
}
