package wal_test

import (
	"fmt"
	"slices"
	"testing"

	"tributary/api"
	"tributary/files"
	"tributary/wal"
)

// P11.2: each call's changes of the disk, in their order, and what is left when the disk refuses one of them.

// change is one change of a disk.
type change func(d *files.Disk) api.Errno

func put(name, b string) change {
	return func(d *files.Disk) api.Errno { return d.Append(name, []byte(b)) }
}

func sync(name string) change { return func(d *files.Disk) api.Errno { return d.Sync(name) } }

func cut(name string, bodies ...string) change {
	return func(d *files.Disk) api.Errno { return d.Cut(name, len(framed(bodies...))) }
}

func remove(name string) change { return func(d *files.Disk) api.Errno { return d.Remove(name) } }

// left is what a log has when its disk refused a change: from which index on, and up to which one.
type left struct{ first, last int }

// calls are such on logs of numbered bodies; behind each change, and when the first one is refused, the log has what is left.
var calls = []struct {
	name        string
	first, last int
	call        call
	changes     []change
	left        []left
}{
	{"Append to an empty log", 1, 0, appendNew, []change{put("log00000001", ""), put("log00000001", framed("new"))}, []left{{1, 0}, {1, 0}}},
	{"Append to one that begins anew", 20, 19, appendNew, []change{put("log00000020", framed("new"))}, []left{{20, 19}}},
	{"Append", 1, 7, appendNew, []change{put("log00000001", framed("new"))}, []left{{1, 7}}},
	{"Append to a full segment", 1, 8, appendNew, []change{sync("log00000001"), put("log00000009", ""), put("log00000009", framed("new"))}, []left{{1, 8}, {1, 8}, {1, 8}}},
	{"Sync of nothing", 1, 0, syncAll, nil, nil},
	{"Sync of an empty segment", 5, 4, syncAll, []change{sync("log00000005")}, []left{{5, 4}}},
	{"Sync", 1, 20, syncAll, []change{sync("log00000017")}, []left{{1, 20}}},
	{"CutBehind of nothing", 1, 0, cutBehind(0), nil, nil},
	{"CutBehind the last one", 1, 5, cutBehind(5), []change{cut("log00000001", numbered(1, 5)...)}, []left{{1, 5}}},
	{"CutBehind in the last segment", 1, 12, cutBehind(10), []change{cut("log00000009", numbered(9, 10)...)}, []left{{1, 12}}},
	{"CutBehind a segment's last one", 1, 24, cutBehind(16), []change{remove("log00000017"), cut("log00000009", numbered(9, 16)...)}, []left{{1, 24}, {1, 16}}},
	{
		"CutBehind in the first segment", 1, 26, cutBehind(3),
		[]change{remove("log00000025"), remove("log00000017"), remove("log00000009"), cut("log00000001", numbered(1, 3)...)},
		[]left{{1, 26}, {1, 24}, {1, 16}, {1, 8}},
	},
	{"CutBehind of all", 3, 12, cutBehind(2), []change{remove("log00000011"), cut("log00000003")}, []left{{3, 12}, {3, 10}}},
	{"DropBelow of nothing", 1, 0, dropBelow(1), nil, nil},
	{"DropBelow of no whole segment", 1, 20, dropBelow(8), nil, nil},
	{"DropBelow of one", 1, 20, dropBelow(9), []change{remove("log00000001")}, []left{{1, 20}}},
	{"DropBelow of all but the last", 3, 26, dropBelow(27), []change{remove("log00000003"), remove("log00000011")}, []left{{3, 26}, {11, 26}}},
	{"Begin of nothing", 1, 0, begin(1), []change{put("log00000001", "")}, []left{{1, 0}}},
	{"Begin anew", 1, 3, begin(1), []change{remove("log00000001"), put("log00000001", "")}, []left{{1, 3}, {1, 0}}},
	{
		"Begin", 3, 22, begin(10),
		[]change{remove("log00000019"), remove("log00000011"), remove("log00000003"), put("log00000010", "")},
		[]left{{3, 22}, {3, 18}, {3, 10}, {1, 0}},
	},
}

var (
	appendNew = call{kind: "Append", body: "new"}
	syncAll   = call{kind: "Sync"}
)

func cutBehind(i int) call { return call{kind: "CutBehind", i: i} }

func dropBelow(i int) call { return call{kind: "DropBelow", i: i} }

func begin(i int) call { return call{kind: "Begin", i: i} }

// alike wants two disks to have the same files, as much of them sure, and both power or none.
func alike(t *testing.T, what string, got, want *files.Disk) {
	t.Helper()
	if got.Off() != want.Off() || !slices.Equal(got.Names(), want.Names()) {
		t.Errorf("%s: off is %t, the files are %q, want %t, %q", what, got.Off(), got.Names(), want.Off(), want.Names())
	}
	for _, name := range want.Names() {
		n, sure := got.Size(name)
		if wantN, wantSure := want.Size(name); n != wantN || sure != wantSure {
			t.Errorf("%s: %s has %d bytes, %d sure, want %d, %d", what, name, n, sure, wantN, wantSure)
		}
	}
	got, want = got.Fork(), want.Fork()
	got.Crash(keepAll(got))
	want.Crash(keepAll(want))
	for _, name := range want.Names() {
		b, _ := got.Read(name)
		if wantB, _ := want.Read(name); string(b) != string(wantB) {
			t.Errorf("%s: %s has %q, want %q", what, name, b, wantB)
		}
	}
}

// keepAll keeps all bytes that are not sure.
func keepAll(d *files.Disk) []api.Keep {
	var l []api.Keep
	for _, name := range d.Names() {
		l = append(l, api.Keep{Name: name, N: 1 << 30})
	}
	return l
}

// isTorn wants each change of a log to be ErrTorn, whatever it is given.
func isTorn(t *testing.T, w *wal.Log) {
	t.Helper()
	for _, n := range []int{0, 3, 1<<16 + 1} {
		if i, e := w.Append(make([]byte, n)); i != 0 || e != api.ErrTorn {
			t.Errorf("Append = %d, %d, want ErrTorn", i, e)
		}
	}
	says(t, "Sync", w.Sync(), api.ErrTorn)
	for _, i := range []int{-5, 0, 1, w.First() - 1, w.First(), w.Next() - 1, w.Next(), 1 << 40} {
		says(t, "CutBehind", w.CutBehind(i), api.ErrTorn)
		says(t, "DropBelow", w.DropBelow(i), api.ErrTorn)
		says(t, "Begin", w.Begin(i), api.ErrTorn)
	}
}

// reads wants a log to have numbered bodies.
func (l left) reads(t *testing.T, w *wal.Log) {
	t.Helper()
	has(t, w, l.first, numbered(l.first, l.last)...)
}

func TestThePowerGoesAtEachChange(t *testing.T) {
	for _, c := range calls {
		for n, want := range c.left {
			for _, torn := range []int{0, 1, 5, 1 << 20} {
				what := fmt.Sprint(c.name, " at change ", n, ", torn ", torn)
				d, w := logOf(t, c.first, c.last)
				plain := d.Fork()
				plain.Stop(n, torn)
				for _, do := range c.changes[:n+1] {
					do(plain)
				}
				d.Stop(n, torn)
				says(t, what, c.call.does(w), api.ErrOff)
				alike(t, what, d, plain)
				want.reads(t, w)
				isTorn(t, w)
				// Power does not mend it; another one that is opened has no fault.
				d.Crash(keepAll(d))
				isTorn(t, w)
				want.reads(t, w)
				appends(t, open(t, d), open(t, d).Next(), "a")
			}
		}
	}
}

func TestThePowerLastsForEachChange(t *testing.T) {
	for _, c := range calls {
		d, w := logOf(t, c.first, c.last)
		plain := d.Fork()
		for _, do := range c.changes {
			says(t, "a change", do(plain), api.OK)
		}
		d.Stop(len(c.changes), 0)
		says(t, c.name, c.call.does(w), api.OK)
		alike(t, c.name, d, plain)
		says(t, "one more change", d.Append("more", nil), api.ErrOff)
	}
}

// A call that changes nothing asks no disk.
func TestNoChangeWithoutPower(t *testing.T) {
	for _, c := range calls {
		d, w := logOf(t, c.first, c.last)
		d.Stop(0, 0)
		d.Append("more", nil)
		want := api.OK
		if len(c.changes) > 0 {
			want = api.ErrOff
		}
		says(t, c.name, c.call.does(w), want)
		left{c.first, c.last}.reads(t, w)
	}
}

// What may not be is said ahead of what the disk says, and tears nothing.
func TestArgumentsWithoutPower(t *testing.T) {
	d, w := logOf(t, 1, 20)
	d.Stop(0, 0)
	d.Append("more", nil)
	if i, e := w.Append(make([]byte, 1<<16+1)); i != 0 || e != api.ErrLong {
		t.Errorf("Append = %d, %d", i, e)
	}
	says(t, "CutBehind", w.CutBehind(-1), api.ErrArg)
	says(t, "DropBelow", w.DropBelow(0), api.ErrArg)
	says(t, "Begin", w.Begin(0), api.ErrArg)
	says(t, "Sync", w.Sync(), api.ErrOff)
	says(t, "Sync", w.Sync(), api.ErrTorn)
}

func TestADiskWithoutRoom(t *testing.T) {
	for _, last := range []int{0, 8, 16} {
		d, w := logOf(t, 1, last)
		for i := len(d.Names()); i < 256; i++ {
			d.Append(fmt.Sprint("f", i), nil)
		}
		if i, e := w.Append([]byte("new")); i != 0 || e != api.ErrFull {
			t.Errorf("Append = %d, %d", i, e)
		}
		left{1, last}.reads(t, w)
		isTorn(t, w)
		has(t, open(t, d), 1, numbered(1, last)...)
	}
	d := files.New()
	w := open(t, d)
	for i := range 256 {
		d.Append(fmt.Sprint("f", i), nil)
	}
	says(t, "Begin", w.Begin(5), api.ErrFull)
	has(t, w, 1)
	isTorn(t, w)
}

func TestASegmentThatIsGone(t *testing.T) {
	for _, c := range []call{syncAll, cutBehind(9), begin(1)} {
		d, w := logOf(t, 1, 12)
		d.Remove("log00000009")
		says(t, c.kind, c.does(w), api.ErrNone)
		left{1, 12}.reads(t, w)
		isTorn(t, w)
	}
}
