// Package parts is what several layers have in common: the codes of counts and of the steps of paths, the bytes of sums, what is no value, which values are alike, and copies of lists whose items have lists.
package parts

import (
	"slices"

	"tributary/api"
	"tributary/varint"
)

const bitsOfByte = 8

// PutCounts answers b with the codes of counts behind it; as append does, it uses the room behind b.
func PutCounts(b []byte, counts ...int) []byte {
	for _, n := range counts {
		code, _ := varint.Count(n)
		b = append(b, code...)
	}
	return b
}

// SumSize is how many bytes a sum has in a code.
const SumSize = 4

// SumBytes answers the bytes of a sum in a code, the lowest one first.
func SumBytes(sum int) [SumSize]byte {
	var b [SumSize]byte
	for i := range b {
		b[i] = byte(sum)
		sum >>= bitsOfByte
	}
	return b
}

// PutPath answers b with the code of the path p behind it; as append does, it uses the room behind b.
func PutPath(b []byte, p []string) []byte {
	b = PutCounts(b, len(p))
	for _, step := range p {
		b = append(b, varint.Text(step)...)
	}
	return b
}

// ReadPath answers the steps whose code comes next, whether they are a path or not.
func ReadPath(s *varint.Source) []string {
	var p []string
	for range s.Count(api.MaxSteps) {
		p = append(p, s.Text(api.MaxName))
	}
	return p
}

// None tells whether v is {}.
func None(v api.Value) bool {
	return v.Kind == 0 && v.Int == 0 && v.Text == "" && len(v.Items) == 0 && len(v.Names) == 0
}

// Alike tells whether all fields of a and b are the same: values that may not be have no order by which they could differ.
func Alike(a, b api.Value) bool {
	return a.Kind == b.Kind && a.Int == b.Int && a.Text == b.Text && slices.Equal(a.Names, b.Names) && slices.EqualFunc(a.Items, b.Items, Alike)
}

// CopyEach answers a list of what clone answers of each item of l.
func CopyEach[T any](l []T, clone func(x T) T) []T {
	if len(l) == 0 {
		return nil
	}
	out := make([]T, len(l))
	for i, x := range l {
		out[i] = clone(x)
	}
	return out
}
