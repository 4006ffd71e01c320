package files_test

import (
	"fmt"
	"math"
	"testing"

	"tributary/api"
	"tributary/files"
)

// P9.2: the power.

// changes are one of each kind, none of which the disk of some refuses, and the files that there are when the power went at it with 1 byte torn.
var changes = []struct {
	name string
	do   func(d *files.Disk) api.Errno
	left map[string]string
}{
	{"Append", func(d *files.Disk) api.Errno { return d.Append("b", []byte("12")) }, map[string]string{"a": "abcde", "b": "xy1", "e": ""}},
	{"Append to a new one", func(d *files.Disk) api.Errno { return d.Append("c", []byte("12")) }, map[string]string{"a": "abcde", "b": "xy", "c": "1", "e": ""}},
	{"Sync", func(d *files.Disk) api.Errno { return d.Sync("a") }, map[string]string{"a": "abcde", "b": "xy", "e": ""}},
	{"Cut", func(d *files.Disk) api.Errno { return d.Cut("a", 1) }, map[string]string{"a": "abcde", "b": "xy", "e": ""}},
	{"Remove", func(d *files.Disk) api.Errno { return d.Remove("a") }, map[string]string{"a": "abcde", "b": "xy", "e": ""}},
	{"Rename", func(d *files.Disk) api.Errno { return d.Rename("a", "b") }, map[string]string{"a": "abcde", "b": "xy", "e": ""}},
}

// isOff wants the power to be gone: each call says so, ahead of all else that it could say.
func isOff(t *testing.T, d *files.Disk) {
	t.Helper()
	if !d.Off() {
		t.Error("the power is there")
	}
	for _, name := range []string{"a", "none", ""} {
		for call, e := range map[string]api.Errno{
			"Append": d.Append(name, []byte("zz")), "Append of nothing": d.Append(name, nil), "Append of too much": d.Append(name, bytesOf(1<<20+1)),
			"Sync": d.Sync(name), "Cut": d.Cut(name, 0), "Cut to less": d.Cut(name, -1), "Remove": d.Remove(name),
			"Rename": d.Rename(name, "z"), "Rename to the same": d.Rename(name, name), "Rename to none": d.Rename("a", name),
			"Stop": d.Stop(-1, 0), "Stop at once": d.Stop(0, 0), "Stop of less": d.Stop(-2, -1),
		} {
			says(t, call, e, api.ErrOff)
		}
		if b, e := d.Read(name); e != api.ErrOff || len(b) != 0 {
			t.Errorf("Read = %q, %d", b, e)
		}
	}
}

// has wants the disk, whose power is gone, to have files of so many bytes.
func has(t *testing.T, d *files.Disk, want map[string]string) {
	t.Helper()
	if len(d.Names()) != len(want) {
		t.Errorf("Names() = %q, want those of %q", d.Names(), want)
	}
	for name, b := range want {
		sure := 0
		if name == "a" {
			sure = 3
		}
		hasSize(t, d, name, len(b), sure)
	}
}

func TestThePowerGoes(t *testing.T) {
	for _, c := range changes {
		for n := range 4 {
			d := some(t)
			says(t, "Stop", d.Stop(n, 1), api.OK)
			for i := range n {
				says(t, fmt.Sprint("change ", i), d.Append("e", nil), api.OK)
			}
			// What is no change does not count; the power is there till the change at which it goes.
			for range 5 {
				d.Append("e", bytesOf(1<<20+1))
				d.Append("", nil)
				d.Sync("none")
				d.Cut("a", 6)
				d.Remove("none")
				d.Rename("a", "a")
				d.Stop(-2, 1)
				d.Stop(0, -1)
				d.Crash([]api.Keep{{}})
				d.Fork().Remove("a")
				if d.Off() {
					t.Fatalf("the power is gone ahead of the %s", c.name)
				}
				isSome(t, d)
			}
			says(t, c.name, c.do(d), api.ErrOff)
			isOff(t, d)
			has(t, d, c.left)
			says(t, "Crash of no name", d.Crash([]api.Keep{{Name: "a", N: 2}, {}}), api.ErrArg)
			isOff(t, d)
			has(t, d, c.left)
			says(t, "Crash", d.Crash([]api.Keep{{Name: "a", N: 9}, {Name: "b", N: 9}, {Name: "c", N: 9}}), api.OK)
			if d.Off() {
				t.Error("a crash brings no power")
			}
			for name, b := range c.left {
				holds(t, d, name, b, len(b))
			}
		}
	}
}

func TestThePowerGoesAtOneChangeOnly(t *testing.T) {
	for _, c := range changes {
		d := some(t)
		says(t, "Stop", d.Stop(1, 1), api.OK)
		says(t, c.name, c.do(d), api.OK)
		says(t, "the next change", d.Sync("e"), api.ErrOff)
		says(t, "Crash", d.Crash(nil), api.OK)
		for range 5 {
			says(t, "a change behind the crash", d.Append("e", []byte("1")), api.OK)
		}
	}
}

func TestTornAppend(t *testing.T) {
	for torn, want := range map[int]string{0: "", 1: "1", 2: "12", 3: "123", 4: "123", 1 << 20: "123", math.MaxInt: "123"} {
		for name, was := range map[string]string{"a": "abcde", "b": "xy", "e": "", "new": ""} {
			d := some(t)
			says(t, "Stop", d.Stop(0, torn), api.OK)
			says(t, "Append", d.Append(name, []byte("123")), api.ErrOff)
			sure := 0
			if name == "a" {
				sure = 3
			}
			hasSize(t, d, name, len(was+want), sure)
			none := d.Fork()
			says(t, "Crash", d.Crash([]api.Keep{{Name: name, N: 100}}), api.OK)
			holds(t, d, name, was+want, len(was+want))
			says(t, "Crash", none.Crash(nil), api.OK)
			holds(t, none, name, was[:sure], sure)
		}
	}
}

func TestWhatIsRefusedIsNotTorn(t *testing.T) {
	d := files.New()
	d.Append("a", bytesOf(1<<20))
	for i := range 255 {
		d.Append(fmt.Sprint("f", i), nil)
	}
	says(t, "Stop", d.Stop(0, 0), api.OK)
	says(t, "Append of too much", d.Append("a", []byte("1")), api.ErrFull)
	says(t, "Append to one more", d.Append("more", nil), api.ErrFull)
	if d.Off() {
		t.Error("the power is gone at what is refused")
	}
	hasSize(t, d, "a", 1<<20, 0)
	missing(t, d, "more")
	says(t, "Append of nothing", d.Append("a", nil), api.ErrOff)
	isOff(t, d)
}

func TestStop(t *testing.T) {
	d := some(t)
	for _, c := range [][2]int{{-2, 0}, {math.MinInt, 0}, {0, -1}, {-1, -1}, {5, math.MinInt}, {-2, -1}} {
		says(t, "Stop", d.Stop(c[0], c[1]), api.ErrArg)
	}
	for range 20 {
		says(t, "a change", d.Sync("e"), api.OK)
	}
	// The last one holds; -1 takes it back.
	for _, c := range [][2]int{{0, 1}, {9, 0}, {math.MaxInt, math.MaxInt}, {2, 1}} {
		says(t, "Stop", d.Stop(c[0], c[1]), api.OK)
		says(t, "Stop of less", d.Stop(-2, 0), api.ErrArg)
	}
	says(t, "a change", d.Sync("e"), api.OK)
	says(t, "a change", d.Sync("e"), api.OK)
	for _, torn := range []int{0, 1, math.MaxInt} {
		says(t, "Stop", d.Stop(0, 0), api.OK)
		says(t, "Stop not at all", d.Stop(-1, torn), api.OK)
		for range 20 {
			says(t, "a change", d.Sync("e"), api.OK)
		}
	}
	says(t, "Stop", d.Stop(math.MaxInt, 0), api.OK)
	for range 1000 {
		says(t, "a change", d.Sync("e"), api.OK)
	}
	says(t, "Stop", d.Stop(1, 0), api.OK)
	says(t, "Stop", d.Stop(0, 2), api.OK)
	says(t, "Append", d.Append("b", []byte("123")), api.ErrOff)
	hasSize(t, d, "b", 4, 0)
}

func TestACrashTakesTheStopBack(t *testing.T) {
	for _, n := range []int{0, 1, 5} {
		d := some(t)
		says(t, "Stop", d.Stop(n, 1), api.OK)
		says(t, "Crash", d.Crash(nil), api.OK)
		for range 20 {
			says(t, "a change", d.Append("b", []byte("1")), api.OK)
		}
		holds(t, d, "b", "11111111111111111111", 0)
	}
}

func TestForksHaveThePower(t *testing.T) {
	d := some(t)
	says(t, "Stop", d.Stop(1, 1), api.OK)
	other := d.Fork()
	for _, x := range []*files.Disk{other, d} {
		isSome(t, x)
		says(t, "Append", x.Append("b", []byte("1")), api.OK)
		says(t, "Append", x.Append("b", []byte("23")), api.ErrOff)
		again := x.Fork()
		isOff(t, again)
		hasSize(t, again, "b", 4, 0)
		says(t, "Crash", again.Crash([]api.Keep{{Name: "b", N: 9}}), api.OK)
		holds(t, again, "b", "xy12", 4)
		isOff(t, x)
	}
}
