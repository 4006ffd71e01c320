package wal_test

import (
	"fmt"
	"slices"
	"strings"
	"testing"

	"tributary/api"
	"tributary/files"
	"tributary/sample"
	"tributary/wal"
)

// P11.3: logs behind crashes, by calls that chance makes, always the same ones.

// kept is what is known of a log: its bodies from first on, of which the first ones, so many, are sure; from which index on it may be, and how it may begin anew, if a call was refused.
type kept struct {
	first  int
	bodies []string
	sure   int
	drops  int
	begins []int
}

func (k *kept) next() int { return k.first + len(k.bodies) }

// may tells whether a log that is opened behind a crash may have these bodies.
func (k *kept) may(first int, bodies []string) bool {
	if len(bodies) == 0 && slices.Contains(k.begins, first) {
		return true
	}
	gone := first - k.first
	if gone < 0 || gone > max(0, k.drops-k.first) || gone%8 != 0 || gone > len(k.bodies) {
		return false
	}
	want := k.bodies[gone:]
	return len(bodies) >= k.sure-gone && len(bodies) <= len(want) && slices.Equal(bodies, want[:len(bodies)])
}

// call is one of a log's calls.
type call struct {
	kind string
	i    int
	body string
}

// does is what the call says, of a log.
func (c call) does(w *wal.Log) api.Errno {
	switch c.kind {
	case "Append":
		_, e := w.Append([]byte(c.body))
		return e
	case "Sync":
		return w.Sync()
	case "CutBehind":
		return w.CutBehind(c.i)
	case "DropBelow":
		return w.DropBelow(c.i)
	}
	return w.Begin(c.i)
}

// done is what is known behind a call that was not refused.
func (k *kept) done(c call, w *wal.Log) {
	switch c.kind {
	case "Append":
		if len(k.bodies)%8 == 0 {
			k.sure = len(k.bodies)
		}
		k.bodies = append(slices.Clone(k.bodies), c.body)
	case "Sync":
		k.sure = len(k.bodies)
	case "CutBehind":
		k.bodies = k.bodies[:c.i+1-k.first]
		k.sure = min(k.sure, len(k.bodies))
	case "DropBelow":
		gone := w.First() - k.first
		k.first, k.bodies, k.sure = w.First(), k.bodies[gone:], max(0, k.sure-gone)
	case "Begin":
		*k = kept{first: c.i}
	}
}

// refused is what is known behind a call that the disk refused, once it is opened again.
func (k *kept) refused(c call) {
	switch c.kind {
	case "Append":
		k.bodies = append(slices.Clone(k.bodies), c.body)
	case "CutBehind":
		k.sure = min(k.sure, c.i+1-k.first)
	case "DropBelow":
		k.drops = c.i
	case "Begin":
		k.sure, k.begins = 0, []int{1, c.i}
	}
}

// anyCall is a call that the log of k does not refuse.
func anyCall(r *sample.Chance, k *kept, n int) call {
	kinds := []string{"Append", "Append", "Append", "Append", "Append", "Append", "Append", "Append", "Sync", "Sync", "CutBehind", "DropBelow"}
	c := call{kind: kinds[r.Below(len(kinds))]}
	switch {
	case r.Below(60) == 0:
		return call{kind: "Begin", i: 1 + r.Below(40)}
	case c.kind == "Append":
		c.body = fmt.Sprint(n, strings.Repeat("x", r.Below(30)))
	case c.kind == "CutBehind":
		c.i = k.next() - 1 - r.Below(1+min(20, len(k.bodies)))
	case c.kind == "DropBelow":
		c.i = k.first + r.Below(1+len(k.bodies))
	}
	return c
}

// anyKeep is what a crash keeps of all files: nothing, all, or some.
func anyKeep(r *sample.Chance, d *files.Disk) []api.Keep {
	var l []api.Keep
	switch r.Below(3) {
	case 0:
		l = keepAll(d)
	case 1:
		for _, name := range d.Names() {
			l = append(l, api.Keep{Name: name, N: r.Below(80)})
		}
	}
	return l
}

// cycle makes calls on the log of a disk till the power is gone, or chance ends it; then all is refused.
func cycle(t *testing.T, r *sample.Chance, d *files.Disk, k *kept, n int) {
	t.Helper()
	w := open(t, d)
	if r.Below(2) == 0 {
		d.Stop(r.Below(30), r.Below(40))
	}
	for i := range 5 + r.Below(60) {
		c := anyCall(r, k, n*100+i)
		e := c.does(w)
		if e == api.ErrOff {
			k.refused(c)
			says(t, "a change behind it", anyCall(r, &kept{first: 1}, 0).does(w), api.ErrTorn)
			return
		}
		says(t, c.kind, e, api.OK)
		before := k.first
		k.done(c, w)
		if c.kind == "DropBelow" && (k.first > max(before, c.i) || k.first+8 <= c.i && k.first+8 < k.next()) {
			t.Fatalf("DropBelow(%d) leaves from %d on, of %d", c.i, k.first, before)
		}
		if w.First() != k.first || !slices.Equal(bodiesOf(t, w), k.bodies) {
			t.Fatalf("behind %.60v the log has, from %d on, %.100q, want, from %d on, %.100q", c, w.First(), bodiesOf(t, w), k.first, k.bodies)
		}
	}
}

// keeps are crashes that keep nothing, some, and all of what is not sure.
var keeps = []func(d *files.Disk) []api.Keep{
	func(d *files.Disk) []api.Keep { return nil },
	func(d *files.Disk) []api.Keep {
		l := keepAll(d)
		for i := range l {
			l[i].N = 5
		}
		return l
	},
	keepAll,
}

// TestCrashesAtEachChange has the power go at each change of each call, on logs that are sure and such that are not.
func TestCrashesAtEachChange(t *testing.T) {
	for _, c := range calls {
		for n := range len(c.changes) + 1 {
			for _, torn := range []int{0, 1, 5, 1 << 20} {
				for _, keep := range keeps {
					d, w := logOf(t, c.first, c.last)
					k := &kept{first: c.first, bodies: numbered(c.first, c.last)}
					k.sure = max(0, len(k.bodies)-1) / 8 * 8
					if torn == 1 {
						says(t, "Sync", w.Sync(), api.OK)
						k.sure = len(k.bodies)
					}
					d.Stop(n, torn)
					if e := c.call.does(w); e == api.OK {
						k.done(c.call, w)
					} else {
						k.refused(c.call)
					}
					says(t, "Crash", d.Crash(keep(d)), api.OK)
					w = open(t, d)
					if first, bodies := w.First(), bodiesOf(t, w); !k.may(first, bodies) {
						t.Errorf("%s, change %d, torn %d: the log has, from %d on, %.200q, which was %.200v", c.name, n, torn, first, bodies, *k)
					}
					has(t, open(t, d), w.First(), bodiesOf(t, w)...)
				}
			}
		}
	}
}

func TestLogsBehindCrashes(t *testing.T) {
	r := sample.Chance(11)
	d, k := files.New(), &kept{first: 1}
	all, some := 0, 0
	for n := range 6000 {
		cycle(t, &r, d, k, n)
		says(t, "Crash", d.Crash(anyKeep(&r, d)), api.OK)
		w := open(t, d)
		first, bodies := w.First(), bodiesOf(t, w)
		if !k.may(first, bodies) {
			t.Fatalf("behind a crash the log has, from %d on, %.200q, which was %.200v", first, bodies, *k)
		}
		d.Stop(0, 0)
		has(t, open(t, d), first, bodies...)
		d.Stop(-1, 0)
		switch unsure := len(k.bodies) - k.sure; {
		case unsure > 0 && len(bodies) == len(k.bodies):
			all++
		case unsure > 0 && len(bodies) < len(k.bodies):
			some++
		}
		*k = kept{first: first, bodies: bodies, sure: len(bodies)}
	}
	if all < 500 || some < 500 {
		t.Errorf("of what was not sure crashes left all just %d times, and not all %d times", all, some)
	}
}
