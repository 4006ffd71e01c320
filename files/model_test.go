package files_test

import (
	"maps"
	"slices"
	"strings"
	"testing"

	"tributary/api"
	"tributary/files"
	"tributary/sample"
)

// P9.1 to P9.3, by calls that chance makes, always the same ones, on disks and on what the chapter's words say of them.

// plain is a file, plainly: what is sure of it, and what is not.
type plain struct{ sure, unsure string }

// model is a disk, plainly.
type model struct {
	files      map[string]plain
	left, torn int
	off        bool
}

// spend is a change, which is done by do, or, if the power goes at it, by torn.
func (m *model) spend(do, torn func()) api.Errno {
	m.left--
	if m.left == -1 {
		m.off = true
		torn()
		return api.ErrOff
	}
	do()
	return api.OK
}

func nothing() {}

// call is one of a disk's calls, with all that one of them may want.
type call struct {
	kind     string
	name, to string
	b        string
	n, torn  int
	keep     []api.Keep
}

func noName(l ...string) bool {
	return slices.ContainsFunc(l, func(name string) bool { return len(name) < 1 || len(name) > 24 })
}

// change is what a change says, and does.
func (m *model) change(c call) api.Errno {
	f, there := m.files[c.name]
	switch {
	case m.off:
		return api.ErrOff
	case noName(c.name), c.kind == "Rename" && noName(c.to):
		return api.ErrArg
	case c.kind == "Append":
		put := func(b string) func() {
			return func() { m.files[c.name] = plain{f.sure, f.unsure + b} }
		}
		return m.spend(put(c.b), put(c.b[:min(len(c.b), m.torn)]))
	case !there:
		return api.ErrNone
	case c.kind == "Sync":
		return m.spend(func() { m.files[c.name] = plain{f.sure + f.unsure, ""} }, nothing)
	case c.kind == "Cut":
		all := f.sure + f.unsure
		if c.n < 0 || c.n > len(all) {
			return api.ErrArg
		}
		sure := f.sure[:min(len(f.sure), c.n)]
		return m.spend(func() { m.files[c.name] = plain{sure, all[len(sure):c.n]} }, nothing)
	case c.kind == "Remove":
		return m.spend(func() { delete(m.files, c.name) }, nothing)
	case c.name == c.to:
		return api.ErrArg
	}
	return m.spend(func() { delete(m.files, c.name); m.files[c.to] = f }, nothing)
}

func (m *model) stop(c call) api.Errno {
	switch {
	case m.off:
		return api.ErrOff
	case c.n < -1 || c.torn < 0:
		return api.ErrArg
	}
	m.left, m.torn = c.n, c.torn
	return api.OK
}

func (m *model) crash(c call) api.Errno {
	for _, k := range c.keep {
		if noName(k.Name) {
			return api.ErrArg
		}
	}
	for name, f := range m.files {
		n := 0
		for _, k := range c.keep {
			if k.Name == name {
				n = min(max(k.N, 0), len(f.unsure))
			}
		}
		m.files[name] = plain{f.sure + f.unsure[:n], ""}
	}
	m.left, m.torn, m.off = -1, 0, false
	return api.OK
}

// means is what the call should say, and what it does to the model.
func (m *model) means(c call) api.Errno {
	switch c.kind {
	case "Stop":
		return m.stop(c)
	case "Crash":
		return m.crash(c)
	}
	return m.change(c)
}

// does is what the call says, on a disk.
func (c call) does(d *files.Disk) api.Errno {
	switch c.kind {
	case "Append":
		return d.Append(c.name, []byte(c.b))
	case "Sync":
		return d.Sync(c.name)
	case "Cut":
		return d.Cut(c.name, c.n)
	case "Remove":
		return d.Remove(c.name)
	case "Rename":
		return d.Rename(c.name, c.to)
	case "Stop":
		return d.Stop(c.n, c.torn)
	}
	return d.Crash(c.keep)
}

// few are names, and such that are none: few, so that many calls meet.
var few = []string{"a", "b", "c", "d", strings.Repeat("n", 24), "", strings.Repeat("n", 25)}

func anyName(r *sample.Chance) string {
	if r.Below(20) > 0 {
		return few[r.Below(5)]
	}
	return few[r.Below(7)]
}

func anyCall(r *sample.Chance) call {
	kinds := []string{"Append", "Append", "Append", "Append", "Sync", "Sync", "Cut", "Remove", "Rename", "Rename", "Stop", "Crash"}
	c := call{
		kind: kinds[r.Below(len(kinds))], name: anyName(r), to: anyName(r), b: "0123456789"[r.Below(10):],
		n: r.Below(12) - 2, torn: r.Below(12) - 1,
	}
	for range r.Below(4) {
		c.keep = append(c.keep, api.Keep{Name: anyName(r), N: r.Below(14) - 3})
	}
	return c
}

// differ tells where the disk is not what the model is; nothing, if it is.
func differ(m *model, d *files.Disk) string {
	if d.Off() != m.off {
		return "Off"
	}
	if !slices.Equal(d.Names(), slices.Sorted(maps.Keys(m.files))) {
		return "Names"
	}
	for _, name := range few {
		f, there := m.files[name]
		if n, sure := d.Size(name); n != len(f.sure+f.unsure) || sure != len(f.sure) {
			return "Size of " + name
		}
		b, e := d.Read(name)
		want := api.OK
		switch {
		case m.off:
			want, f = api.ErrOff, plain{}
		case noName(name):
			want = api.ErrArg
		case !there:
			want = api.ErrNone
		}
		if e != want || string(b) != f.sure+f.unsure {
			return "Read of " + name
		}
	}
	return ""
}

func newModel() *model { return &model{files: map[string]plain{}, left: -1} }

func (m *model) fork() *model {
	other := *m
	other.files = maps.Clone(m.files)
	return &other
}

func TestDisksAreWhatTheWordsSay(t *testing.T) {
	r := sample.Chance(9)
	models, disks := []*model{newModel(), newModel(), newModel()}, []*files.Disk{files.New(), files.New(), files.New()}
	said := map[string]map[api.Errno]int{}
	for range 60000 {
		i := r.Below(len(disks))
		if r.Below(30) == 0 {
			k := r.Below(len(disks))
			models[k], disks[k] = models[i].fork(), disks[i].Fork()
		}
		c := anyCall(&r)
		want, got := models[i].means(c), c.does(disks[i])
		if got != want {
			t.Fatalf("%v: %d, want %d", c, got, want)
		}
		for k := range disks {
			if at := differ(models[k], disks[k]); at != "" {
				t.Fatalf("%v on disk %d: %s of disk %d is not as the words say", c, i, at, k)
			}
		}
		if said[c.kind] == nil {
			said[c.kind] = map[api.Errno]int{}
		}
		said[c.kind][got]++
	}
	for kind, want := range map[string][]api.Errno{
		"Append": {api.OK, api.ErrOff, api.ErrArg}, "Sync": {api.OK, api.ErrOff, api.ErrArg, api.ErrNone}, "Cut": {api.OK, api.ErrOff, api.ErrArg, api.ErrNone},
		"Remove": {api.OK, api.ErrOff, api.ErrArg, api.ErrNone}, "Rename": {api.OK, api.ErrOff, api.ErrArg, api.ErrNone}, "Stop": {api.OK, api.ErrOff, api.ErrArg}, "Crash": {api.OK, api.ErrArg},
	} {
		for _, e := range want {
			if said[kind][e] < 20 {
				t.Errorf("%s said %d just %d times", kind, e, said[kind][e])
			}
		}
	}
}

// P9.3: what was made sure is there behind each crash, unless it was cut, removed, or replaced.

func TestWhatIsSureOutlastsCrashes(t *testing.T) {
	r := sample.Chance(10)
	d, sure, outlasted := files.New(), map[string]string{}, 0
	for range 60000 {
		c := anyCall(&r)
		before, _ := d.Read(c.name)
		if c.does(d) != api.OK {
			continue
		}
		switch c.kind {
		case "Sync":
			sure[c.name] = string(before)
		case "Cut":
			sure[c.name] = sure[c.name][:min(len(sure[c.name]), c.n)]
		case "Remove":
			delete(sure, c.name)
		case "Rename":
			sure[c.to] = sure[c.name]
			delete(sure, c.name)
		case "Crash":
			for name, b := range sure {
				if got, e := d.Read(name); e != api.OK || !strings.HasPrefix(string(got), b) {
					t.Fatalf("%q was sure in %s, where %q, %d is behind %v", b, name, got, e, c)
				}
				if b != "" {
					outlasted++
				}
			}
			for _, name := range d.Names() {
				b, _ := d.Read(name)
				sure[name] = string(b)
			}
		}
	}
	if outlasted < 1000 {
		t.Error("just so many were sure:", outlasted)
	}
}
