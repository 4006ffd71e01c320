// Package parts is what the layers that put values, changes and requests together have in common: the codes of lengths and of the steps of paths, and what is no value.
package parts

import (
	"tributary/api"
	"tributary/varint"
)

// PutCount answers b with the code of the length n behind it; as append does, it uses the room behind b.
func PutCount(b []byte, n int) []byte {
	code, _ := varint.Count(n)
	return append(b, code...)
}

// PutPath answers b with the code of the path p behind it; as append does, it uses the room behind b.
func PutPath(b []byte, p []string) []byte {
	b = PutCount(b, len(p))
	for _, step := range p {
		b = append(b, varint.Text(step)...)
	}
	return b
}

// ReadPath answers the steps whose code comes next, whether they are a path or not.
func ReadPath(s *varint.Source) []string {
	var p []string
	for range s.Count(api.MaxSteps) {
		p = append(p, s.Text(api.MaxName))
	}
	return p
}

// None tells whether v is {}.
func None(v api.Value) bool {
	return v.Kind == 0 && v.Int == 0 && v.Text == "" && len(v.Items) == 0 && len(v.Names) == 0
}
