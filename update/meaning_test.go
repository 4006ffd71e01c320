package update_test

import (
	"fmt"
	"slices"
	"strconv"
	"strings"
	"testing"

	"tributary/api"
	"tributary/delta"
	"tributary/path"
	"tributary/sample"
	"tributary/spec"
	"tributary/tree"
	"tributary/update"
	"tributary/value"
)

// P8.4, and what updates mean: by documents and updates that chance makes, always the same ones.

// chance makes documents and updates of few things, so that many meet, and many are nearly the same.
type chance struct{ sample.Chance }

func (c *chance) value(levels int) api.Value {
	v := api.Value{Kind: 1 + c.Below(7)}
	switch {
	case v.Kind == api.KindDoc && levels > 0:
		return c.doc(levels)
	case v.Kind == api.KindArray && levels > 0:
		for range c.Below(4) {
			v.Items = append(v.Items, c.value(levels-1))
		}
		return v
	case v.Kind == api.KindText || v.Kind == api.KindBytes:
		v.Text = strings.Repeat("a", c.Below(2))
		return v
	}
	return number(c.Below(3))
}

func (c *chance) name() string { return string(rune('a' + c.Below(4))) }

func (c *chance) doc(levels int) api.Value {
	v := doc(nil)
	for range c.Below(4) {
		if name := c.name(); !slices.Contains(v.Names, name) {
			v.Names, v.Items = append(v.Names, name), append(v.Items, c.value(levels-1))
		}
	}
	return v
}

// stored is a document with an id, somewhere among its items.
func (c *chance) stored() api.Value {
	v := c.doc(4)
	at := c.Below(len(v.Names) + 1)
	v.Names, v.Items = slices.Insert(v.Names, at, "_id"), slices.Insert(v.Items, at, c.value(2))
	return v
}

// path is a path that mostly leads to what lies in v.
func (c *chance) path(v api.Value) []string {
	var p []string
	for range 1 + c.Below(3) {
		step := c.name()
		switch {
		case v.Kind == api.KindArray && c.Below(5) > 0:
			step = strconv.Itoa(c.Below(len(v.Items) + 1))
		case v.Kind == api.KindDoc && len(v.Names) > 0 && c.Below(5) > 0:
			step = v.Names[c.Below(len(v.Names))]
		}
		p = append(p, step)
		x := api.Value{}
		for i, item := range v.Items {
			if v.Kind == api.KindDoc && v.Names[i] == step || v.Kind == api.KindArray && strconv.Itoa(i) == step {
				x = item
			}
		}
		v = x
	}
	return p
}

func (c *chance) op(v api.Value) api.Op {
	o := api.Op{Kind: 1 + c.Below(8), Path: c.path(v)}
	switch o.Kind {
	case api.OpUnset:
	case api.OpRename:
		o.To = c.path(v)
	case api.OpInc:
		o.Value = number(c.Below(5) - 2)
	default:
		o.Value = c.value(2)
		if x, there := tree.Get(v, o.Path); there && c.Below(3) == 0 {
			o.Value = x
			if len(x.Items) > 0 && o.Kind == api.OpPull {
				o.Value = x.Items[c.Below(len(x.Items))]
			}
		}
	}
	return o
}

// update is an update of v, most often one that may be.
func (c *chance) update(v api.Value) api.Spec {
	if c.Below(4) == 0 {
		made := c.doc(3)
		for i, name := range made.Names {
			if at := slices.Index(v.Names, name); at >= 0 && c.Below(2) == 0 {
				made.Items[i] = v.Items[at]
			}
		}
		return replace(made)
	}
	s := ops()
	for range 1 + c.Below(4) {
		s.Ops = append(s.Ops, c.op(v))
		if spec.Check(s) != api.OK {
			s.Ops = s.Ops[:len(s.Ops)-1]
		}
	}
	return s
}

// meant is what lies behind an operator at its path, and at To, as the chapter's words say it, from what lay there ahead; false, where nothing lies.
func meant(o api.Op, x api.Value, there bool) (api.Value, bool) {
	switch o.Kind {
	case api.OpInc:
		if there {
			return number(x.Int + o.Value.Int), true
		}
	case api.OpPush:
		return array(append(slices.Clone(x.Items), o.Value)...), true
	case api.OpPull:
		left := array()
		for _, item := range x.Items {
			if !alike(item, o.Value) {
				left.Items = append(left.Items, item)
			}
		}
		return left, there
	case api.OpMin:
		if there && value.Compare(x, o.Value) < 0 {
			return x, true
		}
	case api.OpMax:
		if there && value.Compare(x, o.Value) > 0 {
			return x, true
		}
	}
	return o.Value, true
}

// holds tells what is wrong with w as what s makes of v, place by place.
func holds(v, w api.Value, s api.Spec) string {
	for _, o := range s.Ops {
		x, there := tree.Get(v, o.Path)
		y, is := tree.Get(w, o.Path)
		switch o.Kind {
		case api.OpUnset:
			if is && y.Kind != api.KindNull {
				return "it is there"
			}
		case api.OpRename:
			z, to := tree.Get(w, o.To)
			old, was := tree.Get(v, o.To)
			if there && (is || !to || !alike(z, x)) || !there && (is || to != was || !alike(z, old)) {
				return "it is not at its new place"
			}
		default:
			if want, have := meant(o, x, there); is != have || have && !alike(y, want) {
				return fmt.Sprint("it is ", y, ", not ", want)
			}
		}
	}
	if s.Replace {
		id, _ := tree.Id(v)
		got := value.Clone(w)
		at := slices.Index(got.Names, "_id")
		if !alike(got.Items[at], id) {
			return "the id is another one"
		}
		got.Names, got.Items = slices.Delete(got.Names, at, at+1), slices.Delete(got.Items, at, at+1)
		if len(got.Names) != len(s.Doc.Names) {
			return "the items are others"
		}
		for i, name := range s.Doc.Names {
			if k := slices.Index(got.Names, name); k < 0 || !alike(got.Items[k], s.Doc.Items[i]) {
				return "an item is another one"
			}
		}
	}
	return ""
}

// leaves calls see with all that lies in v, and its path.
func leaves(v api.Value, p []string, see func(p []string, x api.Value)) {
	for i, x := range v.Items {
		step := strconv.Itoa(i)
		if v.Kind == api.KindDoc {
			step = v.Names[i]
		}
		q := append(slices.Clone(p), step)
		see(q, x)
		leaves(x, q, see)
	}
}

func TestUpdatesMeanWhatTheWordsSay(t *testing.T) {
	c := chance{11}
	done, still, codes, kinds := 0, 0, map[api.Errno]int{}, [9]int{}
	for range 60000 {
		v := c.stored()
		s := c.update(v)
		l, e := update.Changes(v, s)
		w, m, ae := update.Apply(v, s)
		codes[ae]++
		if ae != api.OK {
			want := e
			if e == api.OK {
				_, want = delta.Apply(v, l)
			}
			if ae != want || e != api.OK && len(l) != 0 || !none(w) || len(m) != 0 {
				t.Fatalf("%v of %v: %v, %d, %v, %v, %d, want %d", s, v, l, e, w, m, ae, want)
			}
			continue
		}
		done++
		for _, o := range s.Ops {
			kinds[o.Kind]++
		}
		if !sameList(l, m) || delta.Check(l) != api.OK || !delta.Free(l) {
			t.Fatalf("%v of %v: the changes %v are not free, or not %v", s, v, l, m)
		}
		if fault := holds(v, w, s); fault != "" {
			t.Fatalf("%v of %v makes %v: %s", s, v, w, fault)
		}
		// Done a second time they change nothing, and the id stays.
		if again, e := delta.Apply(w, l); e != api.OK || !alike(again, w) {
			t.Fatalf("%v twice makes %v of %v, %d", l, again, w, e)
		}
		before, _ := tree.Id(v)
		if behind, is := tree.Id(w); !is || !alike(before, behind) {
			t.Fatalf("%v of %v makes %v of the id", s, v, behind)
		}
		if len(l) == 0 {
			still++
			if !alike(v, w) {
				t.Fatalf("%v changes nothing, but %v to %v", s, v, w)
			}
		}
		// What lies at no place is as before.
		places := spec.Places(s)
		leaves(v, nil, func(p []string, x api.Value) {
			if s.Replace || slices.ContainsFunc(places, func(q []string) bool { return path.Meet(p, q) }) {
				return
			}
			if y, is := tree.Get(w, p); !is || !alike(x, y) {
				t.Fatalf("%v of %v makes %v of what lies at %q", s, v, y, p)
			}
		})
	}
	for _, e := range []api.Errno{api.ErrOp, api.ErrPath, api.ErrType} {
		if codes[e] < 100 {
			t.Error("just so many:", codes)
		}
	}
	if done < 10000 || still < 1000 || slices.Min(kinds[1:]) < 500 {
		t.Error("just so many:", done, still, kinds)
	}
}
