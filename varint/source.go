package varint

import (
	"math"

	"tributary/api"
)

// Source reads codes.
type Source struct {
	// rest is what was not read yet: a string, so that what From was given may change later.
	rest string
	bad  bool
}

// From answers a source that stands at the beginning of b.
func From(b []byte) *Source {
	return &Source{rest: string(b)}
}

// Byte reads the next byte.
func (s *Source) Byte() int {
	x := 0
	s.take(func(rest string) int {
		if rest == "" {
			return 0
		}
		x = int(rest[0])
		return 1
	})
	return x
}

// Int reads the number whose code comes next.
func (s *Source) Int() int {
	return unfold(s.groups(math.MaxUint64))
}

// Count reads the count whose code comes next, which must be most at most.
func (s *Source) Count(most int) int {
	if most < 0 {
		s.Spoil()
		return 0
	}
	return int(s.groups(min(uint64(most), maxCount)))
}

// Text reads the text whose code comes next, which must have most bytes at most.
func (s *Source) Text(most int) string {
	n := s.Count(most)
	if n == 0 {
		return ""
	}
	text := ""
	s.take(func(rest string) int {
		if n > len(rest) {
			return 0
		}
		text = rest[:n]
		return n
	})
	return text
}

// Left answers how many bytes are left.
func (s *Source) Left() int {
	if s.Bad() {
		return 0
	}
	return len(s.rest)
}

// Bad tells whether the source is bad.
func (s *Source) Bad() bool {
	return s == nil || s.bad
}

// Done answers OK, if all bytes were read, and all said something.
func (s *Source) Done() api.Errno {
	if s.Bad() || s.rest != "" {
		return api.ErrCode
	}
	return api.OK
}

// Spoil makes the source bad.
func (s *Source) Spoil() {
	if s != nil {
		s.rest, s.bad = "", true
	}
}

// groups reads the next groups, which must say most at most.
func (s *Source) groups(most uint64) uint64 {
	n := uint64(0)
	s.take(func(rest string) int {
		x, size := getGroups(rest)
		if size == 0 || x > most {
			return 0
		}
		n = x
		return size
	})
	return n
}

// take hands what is left to read, and moves behind as many bytes as it answers; if it answers 0 the source is bad.
func (s *Source) take(read func(rest string) int) {
	if s.Bad() {
		return
	}
	n := read(s.rest)
	if n == 0 {
		s.Spoil()
		return
	}
	s.rest = s.rest[n:]
}
