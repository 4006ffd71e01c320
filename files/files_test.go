package files_test

import (
	"bytes"
	"fmt"
	"math"
	"slices"
	"strings"
	"testing"

	"tributary/api"
	"tributary/files"
)

// holds wants a file to have bytes, of which the first ones, so many, are sure.
func holds(t *testing.T, d *files.Disk, name, want string, sure int) {
	t.Helper()
	b, e := d.Read(name)
	if e != api.OK || string(b) != want {
		t.Errorf("Read(%.30q) = %.60q, %d, want %.60q", name, b, e, want)
	}
	hasSize(t, d, name, len(want), sure)
}

func hasSize(t *testing.T, d *files.Disk, name string, n, sure int) {
	t.Helper()
	if gotN, gotSure := d.Size(name); gotN != n || gotSure != sure {
		t.Errorf("Size(%.30q) = %d, %d, want %d, %d", name, gotN, gotSure, n, sure)
	}
}

// missing wants no file of the name to be there.
func missing(t *testing.T, d *files.Disk, name string) {
	t.Helper()
	if b, e := d.Read(name); e != api.ErrNone || len(b) != 0 {
		t.Errorf("Read(%.30q) = %.60q, %d, want ErrNone", name, b, e)
	}
	hasSize(t, d, name, 0, 0)
	if slices.Contains(d.Names(), name) {
		t.Errorf("%.30q is among the names", name)
	}
}

func named(t *testing.T, d *files.Disk, want ...string) {
	t.Helper()
	if got := d.Names(); !slices.Equal(got, want) {
		t.Errorf("Names() = %q, want %q", got, want)
	}
}

// says wants a call's answer to be a code.
func says(t *testing.T, call string, got, want api.Errno) {
	t.Helper()
	if got != want {
		t.Errorf("%s = %d, want %d", call, got, want)
	}
}

func bytesOf(n int) []byte { return bytes.Repeat([]byte("x"), n) }

// some is a disk of the files a, of 5 bytes, 3 of them sure, b, of 2 bytes, and e, of none.
func some(t *testing.T) *files.Disk {
	t.Helper()
	d := files.New()
	says(t, "Append", d.Append("a", []byte("abc")), api.OK)
	says(t, "Sync", d.Sync("a"), api.OK)
	says(t, "Append", d.Append("a", []byte("de")), api.OK)
	says(t, "Append", d.Append("b", []byte("xy")), api.OK)
	says(t, "Append", d.Append("e", nil), api.OK)
	return d
}

// isSome wants d to be as some made it.
func isSome(t *testing.T, d *files.Disk) {
	t.Helper()
	named(t, d, "a", "b", "e")
	holds(t, d, "a", "abcde", 3)
	holds(t, d, "b", "xy", 0)
	holds(t, d, "e", "", 0)
}

// noNames are texts that are no names; names are the least and the longest ones, and such of any bytes.
var (
	noNames = []string{"", strings.Repeat("n", 25), strings.Repeat("n", 1000)}
	names   = []string{"a", strings.Repeat("n", 24), "\x00", "\xff\xfe", ".", "..", "/", "a b", strings.Repeat("\u00e9", 12)}
)

// P9.1: changes.

func TestNew(t *testing.T) {
	d := files.New()
	named(t, d)
	missing(t, d, "a")
	if d.Off() {
		t.Error("a new disk is off")
	}
}

func TestAppend(t *testing.T) {
	d := files.New()
	for _, c := range []struct{ b, want string }{{"ab", "ab"}, {"", "ab"}, {"c", "abc"}, {"\x00\xff", "abc\x00\xff"}} {
		says(t, "Append", d.Append("a", []byte(c.b)), api.OK)
		holds(t, d, "a", c.want, 0)
	}
	says(t, "Append", d.Append("b", nil), api.OK)
	holds(t, d, "b", "", 0)
	named(t, d, "a", "b")
	isSome(t, some(t))
}

func TestNames(t *testing.T) {
	for _, name := range names {
		d := files.New()
		says(t, "Append to "+name, d.Append(name, []byte("ab")), api.OK)
		named(t, d, name)
		says(t, "Sync of "+name, d.Sync(name), api.OK)
		says(t, "Cut of "+name, d.Cut(name, 1), api.OK)
		holds(t, d, name, "a", 1)
		says(t, "Rename of "+name, d.Rename(name, "other"), api.OK)
		says(t, "Rename to "+name, d.Rename("other", name), api.OK)
		says(t, "Crash", d.Crash([]api.Keep{{Name: name}}), api.OK)
		holds(t, d, name, "a", 1)
		says(t, "Remove of "+name, d.Remove(name), api.OK)
		missing(t, d, name)
	}
	d := files.New()
	for _, name := range []string{"b", "ab", "a", "B", "\xff", "\x00", "a\x00", "aa", "10", "9"} {
		says(t, "Append", d.Append(name, nil), api.OK)
	}
	named(t, d, "\x00", "10", "9", "B", "a", "a\x00", "aa", "ab", "b", "\xff")
}

func TestNoNames(t *testing.T) {
	for _, name := range noNames {
		d := some(t)
		says(t, "Append", d.Append(name, []byte("a")), api.ErrArg)
		says(t, "Append of too much", d.Append(name, bytesOf(1<<20+1)), api.ErrArg)
		says(t, "Sync", d.Sync(name), api.ErrArg)
		says(t, "Cut", d.Cut(name, 0), api.ErrArg)
		says(t, "Remove", d.Remove(name), api.ErrArg)
		for _, other := range []string{"a", "none", name} {
			says(t, "Rename from", d.Rename(name, other), api.ErrArg)
			says(t, "Rename to", d.Rename(other, name), api.ErrArg)
		}
		if b, e := d.Read(name); e != api.ErrArg || len(b) != 0 {
			t.Errorf("Read(%.30q) = %q, %d", name, b, e)
		}
		hasSize(t, d, name, 0, 0)
		for _, l := range [][]api.Keep{{{Name: name}}, {{Name: "a", N: 1}, {Name: name, N: 1}}, {{Name: name}, {Name: "a"}}} {
			says(t, "Crash", d.Crash(l), api.ErrArg)
		}
		isSome(t, d)
	}
}

func TestNoSuchFile(t *testing.T) {
	for _, name := range []string{"c", "A", "ab", "a\x00", "abc"} {
		d := some(t)
		says(t, "Sync", d.Sync(name), api.ErrNone)
		for _, n := range []int{0, 1, -1, math.MaxInt} {
			says(t, "Cut", d.Cut(name, n), api.ErrNone)
		}
		says(t, "Remove", d.Remove(name), api.ErrNone)
		for _, to := range []string{"a", "new", name} {
			says(t, "Rename", d.Rename(name, to), api.ErrNone)
		}
		missing(t, d, name)
		isSome(t, d)
	}
}

func TestMostBytes(t *testing.T) {
	for _, sizes := range [][]int{{1 << 20}, {1<<20 - 1, 1}, {1 << 19, 1<<19 - 1, 1}} {
		d, total := files.New(), 0
		for _, n := range sizes {
			says(t, "Append", d.Append("a", bytesOf(n)), api.OK)
			total += n
			says(t, "Append of too much", d.Append("a", bytesOf(1<<20-total+1)), api.ErrFull)
			hasSize(t, d, "a", total, 0)
		}
		says(t, "Append of nothing", d.Append("a", nil), api.OK)
		says(t, "Append to another one", d.Append("b", bytesOf(1<<20)), api.OK)
		says(t, "Cut", d.Cut("a", 1<<20-2), api.OK)
		says(t, "Append of too much", d.Append("a", bytesOf(3)), api.ErrFull)
		says(t, "Append", d.Append("a", bytesOf(2)), api.OK)
		hasSize(t, d, "a", 1<<20, 0)
	}
	d := files.New()
	says(t, "Append of too much", d.Append("a", bytesOf(1<<20+1)), api.ErrFull)
	missing(t, d, "a")
}

func TestMostFiles(t *testing.T) {
	d := files.New()
	for i := range 256 {
		says(t, "Append", d.Append(fmt.Sprint("f", i), nil), api.OK)
	}
	for range 2 {
		says(t, "Append to one more", d.Append("more", nil), api.ErrFull)
		missing(t, d, "more")
	}
	says(t, "Append to one that is there", d.Append("f0", []byte("a")), api.OK)
	says(t, "Rename", d.Rename("f0", "g0"), api.OK)
	says(t, "Append to one more", d.Append("f0", nil), api.ErrFull)
	says(t, "Rename onto one", d.Rename("g0", "f1"), api.OK)
	says(t, "Append", d.Append("more", nil), api.OK)
	says(t, "Append to one more", d.Append("f0", nil), api.ErrFull)
	says(t, "Remove", d.Remove("f2"), api.OK)
	says(t, "Append", d.Append("f0", nil), api.OK)
	says(t, "Append to one more", d.Append("f2", nil), api.ErrFull)
	if got := d.Names(); len(got) != 256 || !slices.IsSorted(got) {
		t.Error("there are", len(got), "names")
	}
}

func TestSync(t *testing.T) {
	d := some(t)
	for _, name := range []string{"a", "e", "a"} {
		says(t, "Sync", d.Sync(name), api.OK)
	}
	holds(t, d, "a", "abcde", 5)
	holds(t, d, "b", "xy", 0)
	holds(t, d, "e", "", 0)
	says(t, "Append", d.Append("a", []byte("f")), api.OK)
	holds(t, d, "a", "abcdef", 5)
}

func TestCut(t *testing.T) {
	for n := range 6 {
		d := some(t)
		says(t, "Cut", d.Cut("a", n), api.OK)
		holds(t, d, "a", "abcde"[:n], min(n, 3))
		holds(t, d, "b", "xy", 0)
		says(t, "Cut to more", d.Cut("a", n+1), api.ErrArg)
		says(t, "Append", d.Append("a", []byte("z")), api.OK)
		holds(t, d, "a", "abcde"[:n]+"z", min(n, 3))
	}
	d := some(t)
	for _, n := range []int{-1, 6, math.MinInt, math.MaxInt} {
		says(t, "Cut", d.Cut("a", n), api.ErrArg)
	}
	says(t, "Cut", d.Cut("e", 1), api.ErrArg)
	isSome(t, d)
	says(t, "Cut", d.Cut("e", 0), api.OK)
	isSome(t, d)
}

func TestRemove(t *testing.T) {
	d := some(t)
	says(t, "Remove", d.Remove("a"), api.OK)
	missing(t, d, "a")
	named(t, d, "b", "e")
	says(t, "Remove", d.Remove("a"), api.ErrNone)
	says(t, "Append", d.Append("a", []byte("z")), api.OK)
	holds(t, d, "a", "z", 0)
	holds(t, d, "b", "xy", 0)
}

func TestRename(t *testing.T) {
	d := some(t)
	says(t, "Rename", d.Rename("a", "c"), api.OK)
	missing(t, d, "a")
	named(t, d, "b", "c", "e")
	holds(t, d, "c", "abcde", 3)
	says(t, "Rename onto one", d.Rename("b", "c"), api.OK)
	named(t, d, "c", "e")
	holds(t, d, "c", "xy", 0)
	says(t, "Append to the old name", d.Append("b", []byte("q")), api.OK)
	says(t, "Append to the new name", d.Append("c", []byte("z")), api.OK)
	holds(t, d, "b", "q", 0)
	holds(t, d, "c", "xyz", 0)
	d = some(t)
	says(t, "Rename to the same", d.Rename("a", "a"), api.ErrArg)
	says(t, "Rename to the same", d.Rename("e", "e"), api.ErrArg)
	isSome(t, d)
}

// P9.2: crashes and forks; the power is in power_test.go.

func TestCrash(t *testing.T) {
	k := func(name string, n int) api.Keep { return api.Keep{Name: name, N: n} }
	for i, c := range []struct {
		l    []api.Keep
		a, b string
	}{
		{nil, "abc", ""},
		{[]api.Keep{k("a", 0)}, "abc", ""},
		{[]api.Keep{k("a", 1)}, "abcd", ""},
		{[]api.Keep{k("a", 2)}, "abcde", ""},
		{[]api.Keep{k("a", 3)}, "abcde", ""},
		{[]api.Keep{k("a", math.MaxInt)}, "abcde", ""},
		{[]api.Keep{k("a", -1)}, "abc", ""},
		{[]api.Keep{k("a", math.MinInt)}, "abc", ""},
		{[]api.Keep{k("b", 1)}, "abc", "x"},
		{[]api.Keep{k("b", 2)}, "abc", "xy"},
		{[]api.Keep{k("b", 9), k("a", 1)}, "abcd", "xy"},
		{[]api.Keep{k("a", 2), k("a", 1)}, "abcd", ""},
		{[]api.Keep{k("a", 1), k("b", 1), k("a", 2)}, "abcde", "x"},
		{[]api.Keep{k("a", 2), k("a", 0)}, "abc", ""},
		{[]api.Keep{k("a", 2), k("a", -5)}, "abc", ""},
		{[]api.Keep{k("a", -5), k("a", 2)}, "abcde", ""},
		{[]api.Keep{k("none", 2), k("e", 7), k("A", 1)}, "abc", ""},
	} {
		d := some(t)
		says(t, fmt.Sprint("Crash ", i), d.Crash(c.l), api.OK)
		named(t, d, "a", "b", "e")
		holds(t, d, "a", c.a, len(c.a))
		holds(t, d, "b", c.b, len(c.b))
		holds(t, d, "e", "", 0)
		// All is sure then.
		says(t, "Append", d.Append("a", []byte("!")), api.OK)
		says(t, "Crash", d.Crash(nil), api.OK)
		holds(t, d, "a", c.a, len(c.a))
	}
}

func TestExample(t *testing.T) {
	d := files.New()
	d.Append("f", []byte("ab"))
	d.Sync("f")
	d.Append("f", []byte("cd"))
	says(t, "Crash", d.Crash([]api.Keep{{Name: "f", N: 1}}), api.OK)
	holds(t, d, "f", "abc", 3)
}

func TestFork(t *testing.T) {
	changes := []func(d *files.Disk){
		func(d *files.Disk) { d.Append("a", []byte("f")) },
		func(d *files.Disk) { d.Append("new", []byte("f")) },
		func(d *files.Disk) { d.Sync("a") },
		func(d *files.Disk) { d.Cut("a", 1); d.Append("a", []byte("ZZZZ")) },
		func(d *files.Disk) { d.Remove("a") },
		func(d *files.Disk) { d.Rename("a", "b") },
		func(d *files.Disk) { d.Crash(nil) },
		func(d *files.Disk) { d.Stop(0, 0); d.Sync("e") },
	}
	for _, change := range changes {
		d := some(t)
		other := d.Fork()
		change(d)
		isSome(t, other)
		d = some(t)
		other = d.Fork()
		change(other)
		isSome(t, d)
		// A fork is as the disk is when it is made, not as it was once.
		changed := some(t)
		change(changed)
		other = changed.Fork()
		if !slices.Equal(other.Names(), changed.Names()) || other.Off() != changed.Off() {
			t.Error("a fork is another disk than the one that was changed")
		}
		for _, name := range changed.Names() {
			n, sure := changed.Size(name)
			hasSize(t, other, name, n, sure)
		}
	}
}

func TestForksOfWhatHasRoom(t *testing.T) {
	d := files.New()
	for i := range 100 {
		d.Append("a", []byte{byte(i)})
	}
	d.Cut("a", 50)
	one, two := d.Fork(), d.Fork()
	d.Append("a", []byte("ddd"))
	one.Append("a", []byte("111"))
	two.Append("a", []byte("222"))
	for want, x := range map[string]*files.Disk{"ddd": d, "111": one, "222": two} {
		if b, _ := x.Read("a"); string(b[50:]) != want {
			t.Errorf("behind what two forks share stands %q, want %q", b[50:], want)
		}
	}
}

func TestNilDisk(t *testing.T) {
	var d *files.Disk
	for _, name := range []string{"a", ""} {
		for call, e := range map[string]api.Errno{
			"Append": d.Append(name, nil), "Sync": d.Sync(name), "Cut": d.Cut(name, 0), "Remove": d.Remove(name), "Rename": d.Rename(name, "b"),
			"Stop": d.Stop(-2, 0), "Stop ": d.Stop(1, 1), "Crash": d.Crash(nil), "Crash ": d.Crash([]api.Keep{{Name: name}}),
		} {
			says(t, call, e, api.ErrClosed)
		}
		if b, e := d.Read(name); e != api.ErrClosed || len(b) != 0 {
			t.Errorf("Read = %q, %d", b, e)
		}
		hasSize(t, d, name, 0, 0)
	}
	if len(d.Names()) != 0 || d.Off() || d.Fork() != nil {
		t.Error("a nil disk has something")
	}
}

// What is handed in is not changed and not kept; what is answered is new memory.

func TestNothingIsChangedOrKept(t *testing.T) {
	room := []byte("abcdefgh")
	d := files.New()
	d.Append("a", room[:3])
	d.Append("a", room[1:2])
	d.Stop(0, 1)
	d.Append("b", room[4:6])
	keeps := []api.Keep{{Name: "a", N: 9}, {Name: "b", N: 9}, {Name: "", N: 1}}
	was := slices.Clone(keeps)
	says(t, "Crash", d.Crash(keeps[:2]), api.OK)
	if string(room) != "abcdefgh" || !slices.Equal(keeps, was) {
		t.Errorf("what was handed in is changed: %q, %v", room, keeps)
	}
	clear(room)
	clear(keeps)
	holds(t, d, "a", "abcb", 4)
	holds(t, d, "b", "e", 1)
}

func TestAnswersAreNewMemory(t *testing.T) {
	d := some(t)
	for range 2 {
		for _, name := range []string{"a", "b", "e"} {
			b, _ := d.Read(name)
			again, _ := d.Read(name)
			was := slices.Clone(again)
			clear(b[:cap(b)])
			if !slices.Equal(again, was) {
				t.Errorf("two answers of %s share their bytes", name)
			}
		}
		l := d.Names()
		clear(l[:cap(l)])
		isSome(t, d)
		says(t, "Cut", d.Cut("a", 4), api.OK)
		says(t, "Append", d.Append("a", []byte("e")), api.OK)
	}
	b, _ := d.Read("a")
	d.Cut("a", 0)
	d.Append("a", []byte("zzzzz"))
	if string(b) != "abcde" {
		t.Errorf("what was read became %q", b)
	}
}
