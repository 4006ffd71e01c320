// Package varint is layer 1: numbers and texts as bytes. See shared/doc/01-varint.md.
package varint

import "tributary/api"

// maxCount is the greatest count that has a code.
const maxCount = 1 << 62

// A group is the lowest bits of a byte; moreBit is set, if another group follows.
const (
	groupBits = 7
	moreBit   = 1 << groupBits
)

// maxGroups is how many groups 64 bits need; lastGroup is the most that the last one of so many may say.
const (
	maxGroups = 10
	lastGroup = 1
)

// Int answers the code of the number x.
func Int(x int) []byte {
	return putGroups(nil, fold(x))
}

// Count answers the code of the count n.
func Count(n int) ([]byte, api.Errno) {
	if n < 0 || n > maxCount {
		return nil, api.ErrArg
	}
	return putGroups(nil, uint64(n)), api.OK
}

// Text answers the code of the text s.
func Text(s string) []byte {
	b := make([]byte, 0, maxGroups+len(s))
	b = putGroups(b, uint64(len(s)))
	return append(b, s...)
}

// putGroups answers b with the groups of n behind it.
func putGroups(b []byte, n uint64) []byte {
	for n >= moreBit {
		b = append(b, byte(n%moreBit)|moreBit)
		n >>= groupBits
	}
	return append(b, byte(n))
}

// getGroups answers the n whose groups s begins with, and how many these are: 0, if s begins with no code.
func getGroups(s string) (uint64, int) {
	n := uint64(0)
	for i := range min(len(s), maxGroups) {
		b := s[i]
		if i == maxGroups-1 && b > lastGroup {
			return 0, 0
		}
		n |= uint64(b%moreBit) << (groupBits * i)
		if b < moreBit {
			// A last group of nothing would not be needed, unless it is the only one.
			if b == 0 && i > 0 {
				return 0, 0
			}
			return n, i + 1
		}
	}
	return 0, 0
}

// fold lays the numbers from 0 on to the even counts, those below 0 to the odd ones, so that small numbers have short codes on both sides.
func fold(x int) uint64 {
	n := uint64(x) << 1
	if x < 0 {
		return ^n
	}
	return n
}

// unfold answers the number that fold lays to n.
func unfold(n uint64) int {
	x := int(n >> 1)
	if n%2 == 1 {
		return ^x
	}
	return x
}
