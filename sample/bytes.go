package sample

// Behind shows head, and all that is made of it with up to so many more of the bytes of letters behind it.
func Behind(head, letters string, more int, show func(b string)) {
	show(head)
	if more == 0 {
		return
	}
	for i := range len(letters) {
		Behind(head+letters[i:i+1], letters, more-1, show)
	}
}

// Changed shows b with each of its bytes in turn changed into every other one, left out, and twice.
func Changed(b string, show func(b string)) {
	for i := range len(b) {
		for x := range 256 {
			show(b[:i] + string([]byte{byte(x)}) + b[i+1:])
		}
		show(b[:i] + b[i+1:])
		show(b[:i] + b[i:i+1] + b[i:])
	}
}

// Bytes answers up to most bytes; of some all are small.
func (c *Chance) Bytes(most int) string {
	b, bound := make([]byte, c.Below(most+1)), 1+c.Below(256)
	for i := range b {
		b[i] = byte(c.Below(bound))
	}
	return string(b)
}
