package sample

import "bytes"

// Behind shows head, and all that is made of it with up to so many more of the bytes of letters behind it.
func Behind(head, letters string, more int, show func(b string)) {
	show(head)
	if more == 0 {
		return
	}
	for i := range len(letters) {
		Behind(head+letters[i:i+1], letters, more-1, show)
	}
}

// Changed shows b with each of its bytes in turn changed into every other one, left out, and twice.
func Changed(b string, show func(b string)) {
	for i := range len(b) {
		for x := range 256 {
			show(b[:i] + string([]byte{byte(x)}) + b[i+1:])
		}
		show(b[:i] + b[i+1:])
		show(b[:i] + b[i:i+1] + b[i:])
	}
}

// Bytes answers up to most bytes; of some all are small.
func (c *Chance) Bytes(most int) string {
	b, bound := make([]byte, c.Below(most+1)), 1+c.Below(256)
	for i := range b {
		b[i] = byte(c.Below(bound))
	}
	return string(b)
}

// Change answers b, which is not empty, with up to three of its bytes changed.
func (c *Chance) Change(b string) string {
	out := []byte(b)
	for range 1 + c.Below(3) {
		out[c.Below(len(out))] = byte(c.Below(256))
	}
	return string(out)
}

// RoomyBytes answers the same bytes in a list that has more room, in which something lies.
func RoomyBytes(b []byte) []byte { return append(append([]byte(nil), b...), "room"...)[:len(b)] }

// UntouchedBytes tells whether b is still what RoomyBytes made of was, its spare room too.
func UntouchedBytes(b, was []byte) bool {
	room := RoomyBytes(was)
	return bytes.Equal(b, was) && bytes.Equal(b[:cap(b)], room[:cap(room)])
}
