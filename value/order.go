package value

import (
	"cmp"

	"tributary/api"
)

// Compare answers -1, 0 or 1, as a comes ahead of, with, or behind b.
func Compare(a, b api.Value) int {
	mayA, mayB := May(a), May(b)
	switch {
	case mayA && mayB:
		return order(a, b)
	case mayB:
		return -1
	case mayA:
		return 1
	}
	return 0
}

// Same tells whether neither of a and b comes ahead of the other one.
func Same(a, b api.Value) bool {
	return Compare(a, b) == 0
}

// order is Compare of two that may be: of one kind just the fields of that kind differ, so that all are held against each other.
func order(a, b api.Value) int {
	c := cmp.Or(cmp.Compare(a.Kind, b.Kind), cmp.Compare(a.Int, b.Int), cmp.Compare(a.Text, b.Text))
	if c != 0 {
		return c
	}
	for i := range min(len(a.Items), len(b.Items)) {
		if a.Kind == api.KindDoc {
			c = cmp.Compare(a.Names[i], b.Names[i])
		}
		if c == 0 {
			c = order(a.Items[i], b.Items[i])
		}
		if c != 0 {
			return c
		}
	}
	return cmp.Compare(len(a.Items), len(b.Items))
}
