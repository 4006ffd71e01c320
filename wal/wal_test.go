package wal_test

import (
	"fmt"
	"math"
	"slices"
	"strings"
	"testing"

	"tributary/api"
	"tributary/files"
	"tributary/frame"
	"tributary/wal"
)

// says wants a call's answer to be a code.
func says(t *testing.T, call string, got, want api.Errno) {
	t.Helper()
	if got != want {
		t.Errorf("%s = %d, want %d", call, got, want)
	}
}

// framed is the frames of bodies, one behind the other.
func framed(bodies ...string) string {
	var b []byte
	for _, body := range bodies {
		b, _ = frame.Put(b, []byte(body))
	}
	return string(b)
}

// numbered are the bodies that a log has at the indexes from first to last: each its index.
func numbered(first, last int) []string {
	var l []string
	for i := first; i <= last; i++ {
		l = append(l, fmt.Sprint("body ", i))
	}
	return l
}

// open is the log on a disk that refuses nothing.
func open(t *testing.T, d *files.Disk) *wal.Log {
	t.Helper()
	w, e := wal.Open(d)
	if e != api.OK || w == nil {
		t.Fatalf("Open = %v, %d", w, e)
	}
	return w
}

// appends wants bodies to be appended at the indexes from i on.
func appends(t *testing.T, w *wal.Log, i int, bodies ...string) {
	t.Helper()
	for k, body := range bodies {
		if got, e := w.Append([]byte(body)); got != i+k || e != api.OK {
			t.Fatalf("Append(%.20q) = %d, %d, want %d", body, got, e, i+k)
		}
	}
}

// logOf is a log on a new disk that begins at first, and has numbered bodies up to last.
func logOf(t *testing.T, first, last int) (*files.Disk, *wal.Log) {
	t.Helper()
	d := files.New()
	w := open(t, d)
	if first > 1 {
		says(t, "Begin", w.Begin(first), api.OK)
	}
	appends(t, w, first, numbered(first, last)...)
	return d, w
}

// bodiesOf are all bodies of a log.
func bodiesOf(t *testing.T, w *wal.Log) []string {
	t.Helper()
	var l []string
	for i := w.First(); i < w.Next(); i++ {
		b, e := w.Get(i)
		if e != api.OK {
			t.Fatalf("Get(%d) = %d, where there are %d to %d", i, e, w.First(), w.Next()-1)
		}
		l = append(l, string(b))
	}
	return l
}

// has wants a log to have just these bodies, from an index on.
func has(t *testing.T, w *wal.Log, first int, want ...string) {
	t.Helper()
	next := first + len(want)
	if w.First() != first || w.Next() != next {
		t.Fatalf("First() = %d, Next() = %d, want %d, %d", w.First(), w.Next(), first, next)
	}
	if got := bodiesOf(t, w); !slices.Equal(got, want) {
		t.Fatalf("there are %.100q, want %.100q", got, want)
	}
	for _, i := range []int{first - 1, next, next + 1, first - 8, next + 8, 0, -1, math.MinInt, math.MaxInt} {
		if b, e := w.Get(i); i < first && e != api.ErrNone || i >= next && e != api.ErrNone || e != api.OK && b != nil {
			t.Errorf("Get(%d) = %.20q, %d, where there are %d to %d", i, b, e, first, next-1)
		}
	}
}

// onDisk wants a disk to have just these files, of frames of these bodies.
func onDisk(t *testing.T, d *files.Disk, want map[string][]string) {
	t.Helper()
	if len(d.Names()) != len(want) {
		t.Errorf("the files are %q, want %d", d.Names(), len(want))
	}
	for name, bodies := range want {
		if b, e := d.Read(name); e != api.OK || string(b) != framed(bodies...) {
			t.Errorf("%s has %.100q, %d, want the frames of %.100q", name, b, e, bodies)
		}
	}
}

// isSure wants a file to have bytes, all of them sure or not.
func isSure(t *testing.T, d *files.Disk, name string, want bool) {
	t.Helper()
	if n, sure := d.Size(name); n == 0 || (n == sure) != want {
		t.Errorf("of %d bytes of %s %d are sure", n, name, sure)
	}
}

// P11.1: logs, their indexes, and their bodies.

func TestOpenOfNothing(t *testing.T) {
	if w, e := wal.Open(nil); w != nil || e != api.ErrArg {
		t.Errorf("Open(nil) = %v, %d", w, e)
	}
	d := files.New()
	has(t, open(t, d), 1)
	if len(d.Names()) != 0 {
		t.Errorf("an empty log has the files %q", d.Names())
	}
}

func TestOpenWithoutPower(t *testing.T) {
	for _, first := range []int{0, 1} {
		d := files.New()
		if first > 0 {
			d, _ = logOf(t, first, 3)
		}
		d.Stop(0, 0)
		if _, e := wal.Open(d.Fork()); e != api.OK {
			t.Errorf("Open = %d, where nothing is to be changed", e)
		}
		d.Append("log00000001", nil)
		if w, e := wal.Open(d); w != nil || e != api.ErrOff {
			t.Errorf("Open = %v, %d, where the power is gone", w, e)
		}
	}
}

func TestNilLog(t *testing.T) {
	for _, w := range []*wal.Log{nil, {}} {
		if w.First() != 0 || w.Next() != 0 {
			t.Errorf("First() = %d, Next() = %d", w.First(), w.Next())
		}
		for _, i := range []int{-1, 0, 1, math.MaxInt} {
			if b, e := w.Get(i); b != nil || e != api.ErrClosed {
				t.Errorf("Get(%d) = %q, %d", i, b, e)
			}
			says(t, "CutBehind", w.CutBehind(i), api.ErrClosed)
			says(t, "DropBelow", w.DropBelow(i), api.ErrClosed)
			says(t, "Begin", w.Begin(i), api.ErrClosed)
		}
		for _, n := range []int{0, 1, 1<<16 + 1} {
			if i, e := w.Append(make([]byte, n)); i != 0 || e != api.ErrClosed {
				t.Errorf("Append = %d, %d", i, e)
			}
		}
		says(t, "Sync", w.Sync(), api.ErrClosed)
	}
}

func TestGet(t *testing.T) {
	for _, first := range []int{1, 2, 8, 9, 100, 10_000_000} {
		for n := range 20 {
			d, w := logOf(t, first, first+n-1)
			has(t, w, first, numbered(first, first+n-1)...)
			has(t, open(t, d), first, numbered(first, first+n-1)...)
		}
	}
}

// P11.2: changes.

func TestAppend(t *testing.T) {
	bodies := []string{"", "a", "\x00", strings.Repeat("x", 127), strings.Repeat("y", 128), strings.Repeat("z", 1<<16), framed("a", "b"), "", "log", strings.Repeat("\xff", 1<<16)}
	d := files.New()
	w := open(t, d)
	for i := range bodies {
		appends(t, w, i+1, bodies[i])
		has(t, w, 1, bodies[:i+1]...)
		want := map[string][]string{"log00000001": bodies[:min(i+1, 8)]}
		if i >= 8 {
			want["log00000009"] = bodies[8 : i+1]
		}
		onDisk(t, d, want)
	}
	has(t, open(t, d), 1, bodies...)
}

func TestExample(t *testing.T) {
	d, _ := logOf(t, 1, 9)
	onDisk(t, d, map[string][]string{"log00000001": numbered(1, 8), "log00000009": numbered(9, 9)})
}

func TestSegmentsAreSureButTheLast(t *testing.T) {
	d, w := logOf(t, 1, 8)
	isSure(t, d, "log00000001", false)
	appends(t, w, 9, numbered(9, 16)...)
	isSure(t, d, "log00000001", true)
	isSure(t, d, "log00000009", false)
	appends(t, w, 17, numbered(17, 17)...)
	isSure(t, d, "log00000009", true)
	isSure(t, d, "log00000017", false)
}

func TestAppendOfTooMuch(t *testing.T) {
	for _, n := range []int{1<<16 + 1, 1 << 17, 1 << 21} {
		d, w := logOf(t, 1, 8)
		if i, e := w.Append(make([]byte, n)); i != 0 || e != api.ErrLong {
			t.Errorf("Append of %d bytes = %d, %d", n, i, e)
		}
		has(t, w, 1, numbered(1, 8)...)
		isSure(t, d, "log00000001", false)
		onDisk(t, d, map[string][]string{"log00000001": numbered(1, 8)})
		appends(t, w, 9, "body 9")
	}
}

func TestAppendToAFullLog(t *testing.T) {
	for _, first := range []int{1, 50} {
		d, w := logOf(t, first, first+1023)
		d.Stop(0, 0)
		for _, body := range []string{"", "a"} {
			if i, e := w.Append([]byte(body)); i != 0 || e != api.ErrFull {
				t.Errorf("Append to 1024 bodies = %d, %d", i, e)
			}
		}
		if i, e := w.Append(make([]byte, 1<<16+1)); i != 0 || e != api.ErrLong {
			t.Errorf("Append of too much to 1024 bodies = %d, %d", i, e)
		}
		d.Stop(-1, 0)
		has(t, w, first, numbered(first, first+1023)...)
		// Room is made at either end.
		says(t, "CutBehind", w.CutBehind(first+1022), api.OK)
		appends(t, w, first+1023, numbered(first+1023, first+1023)...)
		says(t, "DropBelow", w.DropBelow(first+8), api.OK)
		appends(t, w, first+1024, numbered(first+1024, first+1031)...)
		if i, e := w.Append(nil); i != 0 || e != api.ErrFull {
			t.Errorf("Append to 1024 bodies = %d, %d", i, e)
		}
		has(t, open(t, d), first+8, numbered(first+8, first+1031)...)
	}
}

func TestSync(t *testing.T) {
	for last := range 18 {
		d, w := logOf(t, 1, last)
		says(t, "Sync", w.Sync(), api.OK)
		if last > 0 {
			isSure(t, d, "log00000001", true)
		}
		has(t, w, 1, numbered(1, last)...)
		says(t, "Crash", d.Crash(nil), api.OK)
		has(t, open(t, d), 1, numbered(1, last)...)
	}
}

func TestSyncOfWhatNoLogMadeSure(t *testing.T) {
	d := files.New()
	d.Append("log00000001", []byte(framed(numbered(1, 8)...)))
	d.Append("log00000009", []byte(framed(numbered(9, 16)...)))
	d.Append("log00000017", []byte(framed(numbered(17, 18)...)))
	says(t, "Sync", open(t, d).Sync(), api.OK)
	says(t, "Crash", d.Crash(nil), api.OK)
	has(t, open(t, d), 1, numbered(1, 18)...)
}

// segmented are the files of a log that begins at first, and has numbered bodies up to last.
func segmented(first, last int) map[string][]string {
	want := map[string][]string{fmt.Sprintf("log%08d", first): nil}
	for i := first; i <= last; i += 8 {
		want[fmt.Sprintf("log%08d", i)] = numbered(i, min(i+7, last))
	}
	return want
}

func TestCutBehind(t *testing.T) {
	for _, first := range []int{1, 5} {
		for n := range 26 {
			for i := first - 1; i < first+n; i++ {
				d, w := logOf(t, first, first+n-1)
				says(t, "CutBehind", w.CutBehind(i), api.OK)
				has(t, w, first, numbered(first, i)...)
				if first > 1 || n > 0 {
					onDisk(t, d, segmented(first, i))
				}
				has(t, open(t, d.Fork()), first, numbered(first, i)...)
				appends(t, w, i+1, "other", "bodies")
				has(t, w, first, append(numbered(first, i), "other", "bodies")...)
				has(t, open(t, d), first, append(numbered(first, i), "other", "bodies")...)
			}
		}
	}
}

func TestCutBehindOfAnEmptyLog(t *testing.T) {
	d, w := logOf(t, 1, 0)
	says(t, "CutBehind", w.CutBehind(0), api.OK)
	onDisk(t, d, nil)
	has(t, w, 1)
}

// What is made for a body that the power did not let in is a segment, too.
func TestCutBehindWithAnEmptySegment(t *testing.T) {
	d, w := logOf(t, 1, 8)
	d.Stop(2, 0)
	if _, e := w.Append([]byte("a")); e != api.ErrOff {
		t.Fatalf("Append = %d", e)
	}
	d.Crash(nil)
	w = open(t, d)
	has(t, w, 1, numbered(1, 8)...)
	onDisk(t, d, map[string][]string{"log00000001": numbered(1, 8), "log00000009": nil})
	says(t, "CutBehind", w.CutBehind(8), api.OK)
	onDisk(t, d, segmented(1, 8))
	appends(t, w, 9, numbered(9, 9)...)
	onDisk(t, d, segmented(1, 9))
}

func TestDropBelow(t *testing.T) {
	for _, first := range []int{1, 5} {
		for n := range 26 {
			for i := first; i <= first+n; i++ {
				d, w := logOf(t, first, first+n-1)
				says(t, "DropBelow", w.DropBelow(i), api.OK)
				// Whole segments are dropped, but not the last one.
				from := first
				for from+8 <= i && from+8 < first+n {
					from += 8
				}
				has(t, w, from, numbered(from, first+n-1)...)
				if first > 1 || n > 0 {
					onDisk(t, d, segmented(from, first+n-1))
				}
				has(t, open(t, d.Fork()), from, numbered(from, first+n-1)...)
				appends(t, w, first+n, "other")
				has(t, open(t, d), from, append(numbered(from, first+n-1), "other")...)
			}
		}
	}
}

func TestBegin(t *testing.T) {
	for _, n := range []int{0, 1, 8, 9, 25} {
		for _, i := range []int{1, 2, 8, 9, 17, 500, 10_000_000} {
			d, w := logOf(t, 1, n)
			d.Append("vote", []byte("other"))
			says(t, "Begin", w.Begin(i), api.OK)
			has(t, w, i)
			has(t, open(t, d.Fork()), i)
			says(t, "Remove", d.Remove("vote"), api.OK)
			onDisk(t, d, segmented(i, 0))
			says(t, "CutBehind", w.CutBehind(i-1), api.OK)
			says(t, "DropBelow", w.DropBelow(i), api.OK)
			onDisk(t, d, segmented(i, 0))
			appends(t, w, i, numbered(i, i+9)...)
			has(t, w, i, numbered(i, i+9)...)
			onDisk(t, d, segmented(i, i+9))
			has(t, open(t, d), i, numbered(i, i+9)...)
		}
	}
}

func TestArgumentsThatMayNotBe(t *testing.T) {
	for _, c := range []struct{ first, last int }{{1, 0}, {1, 1}, {1, 8}, {1, 20}, {30, 29}, {30, 50}} {
		d, w := logOf(t, c.first, c.last)
		d.Stop(0, 0)
		for _, i := range []int{c.first - 2, c.last + 1, c.last + 2, -1, -9, math.MinInt, math.MaxInt} {
			says(t, fmt.Sprintf("CutBehind(%d) of %v", i, c), w.CutBehind(i), api.ErrArg)
		}
		for _, i := range []int{c.first - 1, c.last + 2, -1, 0, math.MinInt, math.MaxInt} {
			says(t, fmt.Sprintf("DropBelow(%d) of %v", i, c), w.DropBelow(i), api.ErrArg)
		}
		for _, i := range []int{0, -1, 10_000_001, math.MinInt, math.MaxInt} {
			says(t, fmt.Sprintf("Begin(%d)", i), w.Begin(i), api.ErrArg)
		}
		d.Stop(-1, 0)
		has(t, w, c.first, numbered(c.first, c.last)...)
		appends(t, w, c.last+1, numbered(c.last+1, c.last+1)...)
		has(t, open(t, d), c.first, numbered(c.first, c.last+1)...)
	}
}

// What is handed in is not changed and not kept; what is answered is new memory.

func TestMemory(t *testing.T) {
	d := files.New()
	w := open(t, d)
	room := []byte("abcdefgh")
	if _, e := w.Append(room[:3]); e != api.OK || string(room) != "abcdefgh" {
		t.Errorf("behind Append = %d the body is %q", e, room)
	}
	copy(room, "XXXXXXXX")
	has(t, w, 1, "abc")
	for _, x := range []*wal.Log{w, open(t, d)} {
		one, _ := x.Get(1)
		two, _ := x.Get(1)
		for i := range one[:cap(one)] {
			one[:cap(one)][i] = 'Y'
		}
		if string(two) != "abc" {
			t.Errorf("two answers share memory: %q", two)
		}
		_ = append(two, "ZZZ"...)
		has(t, x, 1, "abc")
	}
	appends(t, w, 2, "def")
	has(t, w, 1, "abc", "def")
}
