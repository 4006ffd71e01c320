package wal_test

import (
	"fmt"
	"maps"
	"testing"

	"tributary/api"
	"tributary/files"
	"tributary/wal"
)

// P11.1, P11.3: what is opened of disks that no log left so.

// broken is the frames of bodies, the last of which has one bit turned.
func broken(bodies ...string) string {
	b := []byte(framed(bodies...))
	b[len(b)-1] ^= 1
	return string(b)
}

// diskOf is a disk of files, all sure.
func diskOf(want map[string]string) *files.Disk {
	d := files.New()
	for name, b := range want {
		d.Append(name, []byte(b))
		d.Sync(name)
	}
	return d
}

// disks are such, the first index and the bodies of the log on each, and its files then.
var disks = []struct {
	name   string
	files  map[string]string
	first  int
	bodies []string
	left   map[string]string
}{
	{
		"bytes behind the frames",
		map[string]string{"log00000001": framed("a", "b") + "junk"},
		1, []string{"a", "b"},
		map[string]string{"log00000001": framed("a", "b")},
	},
	{
		"no frames",
		map[string]string{"log00000001": "junk"},
		1, nil,
		map[string]string{"log00000001": ""},
	},
	{
		"a frame that is cut off",
		map[string]string{"log00000001": framed("a", "long")[:9]},
		1, []string{"a"},
		map[string]string{"log00000001": framed("a")},
	},
	{
		"frames behind one that does not stand",
		map[string]string{"log00000001": framed("a") + broken("b") + framed("c")},
		1, []string{"a"},
		map[string]string{"log00000001": framed("a")},
	},
	{
		"a segment behind one that does not stand whole",
		map[string]string{"log00000001": broken(numbered(1, 8)...), "log00000009": framed("a")},
		1, numbered(1, 7),
		map[string]string{"log00000001": framed(numbered(1, 7)...)},
	},
	{
		"bytes behind the frames of a whole segment",
		map[string]string{"log00000001": framed(numbered(1, 8)...) + "\x01", "log00000009": framed("a") + "\x01"},
		1, append(numbered(1, 8), "a"),
		map[string]string{"log00000001": framed(numbered(1, 8)...), "log00000009": framed("a")},
	},
	{
		"a segment that is missing, and two behind it",
		map[string]string{"log00000001": framed(numbered(1, 8)...), "log00000017": framed(numbered(17, 24)...), "log00000025": framed("a")},
		1, numbered(1, 8),
		map[string]string{"log00000001": framed(numbered(1, 8)...)},
	},
	{
		"one that begins ahead of the last one's end",
		map[string]string{"log00000001": framed(numbered(1, 8)...), "log00000008": framed("a"), "log00000009": framed("b")},
		1, numbered(1, 8),
		map[string]string{"log00000001": framed(numbered(1, 8)...)},
	},
	{
		"one that would go on, were it not for the one ahead",
		map[string]string{"log00000001": framed("a", "b", "c"), "log00000003": framed("d"), "log00000004": framed("e")},
		1, []string{"a", "b", "c"},
		map[string]string{"log00000001": framed("a", "b", "c")},
	},
	{
		"one behind an empty one",
		map[string]string{"log00000003": "", "log00000004": framed("a")},
		3, nil,
		map[string]string{"log00000003": ""},
	},
	{
		"short ones that go on",
		map[string]string{"log00000003": framed("a"), "log00000004": framed("b", "c"), "log00000006": ""},
		3, []string{"a", "b", "c"},
		map[string]string{"log00000003": framed("a"), "log00000004": framed("b", "c"), "log00000006": ""},
	},
	{
		"the greatest name",
		map[string]string{"log99999999": framed("a", "b")},
		99_999_999, []string{"a", "b"},
		map[string]string{"log99999999": framed("a", "b")},
	},
	{
		"names in order of numbers",
		map[string]string{"log00000010": framed("c"), "log00000009": framed("b"), "log00000002": framed(numbered(2, 8)...)},
		2, append(numbered(2, 8), "b", "c"),
		map[string]string{"log00000010": framed("c"), "log00000009": framed("b"), "log00000002": framed(numbered(2, 8)...)},
	},
}

// noSegments are names of other files, which are left as they are.
var noSegments = []string{"vote", "snap", "log", "log1", "log0000001", "log000000001", "log00000000", "Log00000001", "00000001", "log+0000001", "log-0000001", "log0000000a", "log 0000001", "log00000001 ", "loglog00000001", "log0000_001", "log100000000"}

func TestOpen(t *testing.T) {
	for _, c := range disks {
		t.Run(c.name, func(t *testing.T) {
			in, left := maps.Clone(c.files), maps.Clone(c.left)
			for _, name := range noSegments {
				in[name], left[name] = name, name
			}
			d := diskOf(in)
			has(t, open(t, d), c.first, c.bodies...)
			if len(d.Names()) != len(left) {
				t.Errorf("left are %q", d.Names())
			}
			for name, want := range left {
				if b, e := d.Read(name); e != api.OK || string(b) != want {
					t.Errorf("%s has %q, %d, want %q", name, b, e, want)
				}
			}
			// Opened again it is the same, and there is nothing to change.
			d.Stop(0, 0)
			has(t, open(t, d), c.first, c.bodies...)
			d.Stop(-1, 0)
			goesOn(t, d, c.first, c.bodies)
		})
	}
}

// goesOn wants the log on a disk to be appended to, to be cut, and dropped.
func goesOn(t *testing.T, d *files.Disk, first int, bodies []string) {
	t.Helper()
	next := first + len(bodies)
	for i := first - 1; i < next; i++ {
		fork := d.Fork()
		w := open(t, fork)
		says(t, "CutBehind", w.CutBehind(i), api.OK)
		appends(t, w, i+1, "more")
		want := append(append([]string{}, bodies[:i+1-first]...), "more")
		has(t, w, first, want...)
		has(t, open(t, fork), first, want...)
	}
	fork := d.Fork()
	w := open(t, fork)
	appends(t, w, next, numbered(1, 3)...)
	says(t, "Sync", w.Sync(), api.OK)
	says(t, "Crash", fork.Crash(nil), api.OK)
	has(t, open(t, fork), first, append(append([]string{}, bodies...), numbered(1, 3)...)...)
	says(t, "Begin", w.Begin(3), api.OK)
	has(t, open(t, fork), 3)
}

// What the power goes at while a log is opened is ErrOff; the next one opened is the same.
func TestThePowerGoesWhileALogIsOpened(t *testing.T) {
	for _, c := range disks {
		refused := 0
		for n := 0; ; n++ {
			d := diskOf(c.files)
			d.Stop(n, 0)
			w, e := wal.Open(d)
			if e == api.OK {
				break
			}
			refused++
			if w != nil || e != api.ErrOff {
				t.Errorf("%s: Open = %v, %d", c.name, w, e)
			}
			says(t, "Crash", d.Crash(nil), api.OK)
			has(t, open(t, d), c.first, c.bodies...)
		}
		if fmt.Sprint(c.files) != fmt.Sprint(c.left) && refused == 0 {
			t.Errorf("%s: there was no change at which the power goes", c.name)
		}
	}
}

// An index of more than eight digits is in no name.
func TestNoNameForASegment(t *testing.T) {
	d := diskOf(map[string]string{"log99999991": framed(numbered(1, 8)...)})
	w := open(t, d)
	appends(t, w, 99_999_999, numbered(1, 7)...)
	says(t, "DropBelow", w.DropBelow(99_999_999), api.OK)
	appends(t, w, 100_000_006, "the eighth")
	for range 2 {
		if i, e := w.Append([]byte("a")); i != 0 || e != api.ErrFull {
			t.Errorf("Append = %d, %d", i, e)
		}
	}
	has(t, w, 99_999_999, append(numbered(1, 7), "the eighth")...)
	says(t, "CutBehind", w.CutBehind(100_000_005), api.OK)
	appends(t, w, 100_000_006, "another eighth")
	has(t, open(t, d), 99_999_999, append(numbered(1, 7), "another eighth")...)
}
