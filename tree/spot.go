package tree

import (
	"slices"

	"tributary/api"
	"tributary/path"
)

// spot is where the going of a path ends: ahead of its last step, or of one that can not be gone.
type spot struct {
	// in is the value from which that step is to be gone.
	in *api.Value
	// at is which item of in lies at the whole path; -1, if nothing lies there.
	at int
	// rest are the steps from in on, one at least.
	rest []string
}

// put lets x lie at the path.
func (s spot) put(x api.Value) api.Errno {
	switch {
	case s.at >= 0:
		s.in.Items[s.at] = x
	case s.in.Kind == api.KindDoc:
		s.in.Names = append(s.in.Names, s.rest[0])
		s.in.Items = append(s.in.Items, nest(s.rest[1:], x))
	case s.in.Kind == api.KindArray && s.next():
		s.in.Items = append(s.in.Items, x)
	default:
		return api.ErrPath
	}
	return api.OK
}

// drop takes away what lies at the path. An array's other items keep their indexes.
func (s spot) drop() {
	switch {
	case s.at < 0:
	case s.in.Kind == api.KindDoc:
		s.in.Names = slices.Delete(s.in.Names, s.at, s.at+1)
		s.in.Items = slices.Delete(s.in.Items, s.at, s.at+1)
	default:
		s.in.Items[s.at] = api.Value{Kind: api.KindNull}
	}
}

// cut leaves n items, at most, of the array at the path.
func (s spot) cut(n int) {
	if s.at < 0 {
		return
	}
	x := &s.in.Items[s.at]
	if x.Kind == api.KindArray && n < len(x.Items) {
		x.Items = slices.Delete(x.Items, n, len(x.Items))
	}
}

// next tells whether what is left of the path is a step to just behind the last item.
func (s spot) next() bool {
	i, ok := path.Index(s.rest[0])
	return ok && i == len(s.in.Items) && len(s.rest) == 1
}

// nest answers x within as many documents as there are steps, so that it lies at these.
func nest(steps []string, x api.Value) api.Value {
	for _, step := range slices.Backward(steps) {
		x = api.Value{Kind: api.KindDoc, Names: []string{step}, Items: []api.Value{x}}
	}
	return x
}
