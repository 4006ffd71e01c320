package wal

import (
	"slices"
	"strconv"
	"strings"

	"tributary/api"
	"tributary/files"
	"tributary/frame"
	"tributary/trim"
)

const (
	// logName begins the names of all segments.
	logName = "log"
	// digits is how many of them a name has, and lastFirst the last index that has so many.
	digits    = 8
	lastFirst = 99_999_999
)

// segment is a file of frames, by the index of its first body, and their bodies.
type segment struct {
	disk   *files.Disk
	first  int
	bodies [][]byte
}

// nameOf answers the name of the segment whose first index is i.
func nameOf(i int) string {
	number := strconv.Itoa(i)
	return logName + strings.Repeat("0", max(0, digits-len(number))) + number
}

// segmentsOn answers the segments whose names a disk has, in order; they are not read yet.
func segmentsOn(d *files.Disk) []*segment {
	var l []*segment
	for _, name := range d.Names() {
		i, err := strconv.Atoi(strings.TrimPrefix(name, logName))
		if err == nil && i >= 1 && i <= lastFirst && name == nameOf(i) {
			l = append(l, &segment{disk: d, first: i})
		}
	}
	return l
}

func (s *segment) name() string { return nameOf(s.first) }

// next answers the index behind the last body's.
func (s *segment) next() int { return s.first + len(s.bodies) }

// full tells whether no body can be put behind the others.
func (s *segment) full() bool { return len(s.bodies) >= api.PerSegment }

// isSure tells whether a crash takes nothing of the file.
func (s *segment) isSure() bool {
	n, sure := s.disk.Size(s.name())
	return n == sure
}

// create makes the file.
func (s *segment) create() api.Errno { return s.disk.Append(s.name(), nil) }

// load reads the bodies of the frames that stand in the file, and cuts off what stands behind them.
func (s *segment) load() api.Errno {
	bodies, e := trim.Frames(s.disk, s.name())
	s.bodies = bodies
	return e
}

// put puts a body behind the others.
func (s *segment) put(body []byte) api.Errno {
	b, e := frame.Put(nil, body)
	if e != api.OK {
		return e
	}
	if e := s.disk.Append(s.name(), b); e != api.OK {
		return e
	}
	s.bodies = append(s.bodies, slices.Clone(body))
	return api.OK
}

func (s *segment) sync() api.Errno { return s.disk.Sync(s.name()) }

// cut leaves the first n bodies.
func (s *segment) cut(n int) api.Errno {
	size := 0
	for _, body := range s.bodies[:n] {
		size += frame.Size(body)
	}
	if e := s.disk.Cut(s.name(), size); e != api.OK {
		return e
	}
	s.bodies = s.bodies[:n]
	return api.OK
}

func (s *segment) remove() api.Errno { return s.disk.Remove(s.name()) }
