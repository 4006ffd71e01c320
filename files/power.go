package files

// forever is how many more changes a power lasts that is not told to go.
const forever = -1

// power is what a disk runs by.
type power struct {
	// left is how many more changes are done ahead of the one at which the power goes.
	left int
	// torn is how many bytes are put at that one, if it is an Append.
	torn int
	gone bool
}

// lasts tells whether there is power for one more change; at the first one for which there is none it goes.
func (p *power) lasts() bool {
	switch {
	case p.left == 0:
		p.gone = true
	case p.left > 0:
		p.left--
	}
	return !p.gone
}
