// Package value is layer 2: values within values, and their order. See shared/doc/02-value.md.
package value

import (
	"tributary/api"
	"tributary/varint"
)

// May tells whether v may be.
func May(v api.Value) bool {
	return walk(v, 1, func(x api.Value, _ int) bool { return fits(x) })
}

// Check answers what keeps v from being whole.
func Check(v api.Value) api.Errno {
	switch {
	case !May(v):
		return api.ErrValue
	case depth(v) > api.MaxDepth:
		return api.ErrDepth
	case size(v) > api.MaxSize:
		return api.ErrSize
	}
	return api.OK
}

// Depth answers how deep v is; 0, if it may not be.
func Depth(v api.Value) int {
	if !May(v) {
		return 0
	}
	return depth(v)
}

// Size answers how large v is; 0, if it may not be.
func Size(v api.Value) int {
	if !May(v) {
		return 0
	}
	return size(v)
}

// Name tells whether s may be the name of a document's item.
func Name(s string) bool {
	if s == "" || len(s) > api.MaxName || s[0] == '$' {
		return false
	}
	for i := range len(s) {
		if s[i] == '.' {
			return false
		}
	}
	return true
}

// walk shows v, and all that lies in it, to see, each with how deep it lies, as long as see answers true, and tells whether it always did.
func walk(v api.Value, level int, see func(x api.Value, level int) bool) bool {
	if !see(v, level) {
		return false
	}
	for _, x := range v.Items {
		if !walk(x, level+1, see) {
			return false
		}
	}
	return true
}

// fits tells whether v's own fields may be, whatever its items are.
func fits(v api.Value) bool {
	switch v.Kind {
	case api.KindNull:
		return v.Int == 0 && v.Text == "" && single(v)
	case api.KindBool:
		return (v.Int == 0 || v.Int == 1) && v.Text == "" && single(v)
	case api.KindInt:
		return v.Text == "" && single(v)
	case api.KindText, api.KindBytes:
		return v.Int == 0 && single(v)
	case api.KindArray:
		return v.Int == 0 && v.Text == "" && len(v.Names) == 0
	case api.KindDoc:
		return v.Int == 0 && v.Text == "" && len(v.Names) == len(v.Items) && distinct(v.Names)
	}
	return false
}

// single tells whether v holds no others.
func single(v api.Value) bool {
	return len(v.Items) == 0 && len(v.Names) == 0
}

// distinct tells whether each of l may be a name, and none is there twice.
func distinct(l []string) bool {
	seen := map[string]struct{}{}
	for _, s := range l {
		if _, twice := seen[s]; twice || !Name(s) {
			return false
		}
		seen[s] = struct{}{}
	}
	return true
}

// depth answers how deep v is, which may be.
func depth(v api.Value) int {
	deepest := 0
	walk(v, 1, func(_ api.Value, level int) bool {
		deepest = max(deepest, level)
		return true
	})
	return deepest
}

// size answers how large v is, which may be.
func size(v api.Value) int {
	total := 0
	walk(v, 1, func(x api.Value, _ int) bool {
		total += ownSize(x)
		return true
	})
	return total
}

// ownSize answers how large v is without its items.
func ownSize(v api.Value) int {
	switch v.Kind {
	case api.KindBool:
		return 2
	case api.KindInt:
		return 1 + len(varint.Int(v.Int))
	case api.KindText, api.KindBytes:
		return 1 + textSize(v.Text)
	case api.KindArray:
		return 1 + countSize(len(v.Items))
	case api.KindDoc:
		total := 1 + countSize(len(v.Items))
		for _, s := range v.Names {
			total += textSize(s)
		}
		return total
	}
	return 1
}

// textSize answers how many bytes the code of s has.
func textSize(s string) int {
	return countSize(len(s)) + len(s)
}

// countSize answers how many bytes the code of the length n has.
func countSize(n int) int {
	b, _ := varint.Count(n)
	return len(b)
}
