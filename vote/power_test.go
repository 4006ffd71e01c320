package vote_test

import (
	"fmt"
	"slices"
	"strings"
	"testing"

	"tributary/api"
	"tributary/files"
	"tributary/sample"
	"tributary/vote"
)

// P12.1, P12.2: each call's changes of the disk, in their order, and what is left when the disk refuses one of them.

// change is one change of a disk.
type change func(d *files.Disk) api.Errno

func put(name, b string) change {
	return func(d *files.Disk) api.Errno { return d.Append(name, []byte(b)) }
}

func sync(name string) change { return func(d *files.Disk) api.Errno { return d.Sync(name) } }

func cut(name string, n int) change { return func(d *files.Disk) api.Errno { return d.Cut(name, n) } }

func remove(name string) change { return func(d *files.Disk) api.Errno { return d.Remove(name) } }

func rename(from, to string) change {
	return func(d *files.Disk) api.Errno { return d.Rename(from, to) }
}

func openVotes(d *files.Disk) api.Errno {
	_, e := vote.Open(d)
	return e
}

func setTo(term, node int) change {
	return func(d *files.Disk) api.Errno {
		v, _ := vote.Open(d)
		return v.Set(term, node)
	}
}

func save(b string) change {
	return func(d *files.Disk) api.Errno { return vote.Save(d, []byte(b)) }
}

// calls are such on disks of files that are all sure.
var calls = []struct {
	name    string
	files   map[string]string
	do      change
	changes []change
}{
	{"Open of nothing", nil, openVotes, nil},
	{"Open", map[string]string{"vote": framesOf(set{1, 1})}, openVotes, nil},
	{"Open with what broke off", map[string]string{"vote": framesOf(set{1, 1}) + "x", "vote.new": "y"}, openVotes, []change{remove("vote.new"), cut("vote", len(framesOf(set{1, 1})))}},
	{"the first Set", nil, setTo(2, 1), []change{put("vote", framesOf(set{2, 1})), sync("vote")}},
	{"Set", map[string]string{"vote": framesOf(sets(31)...)}, setTo(99, 1), []change{put("vote", framesOf(set{99, 1})), sync("vote")}},
	{"Set behind 32", map[string]string{"vote": framesOf(sets(32)...)}, setTo(99, 1), []change{put("vote.new", framesOf(set{99, 1})), sync("vote.new"), rename("vote.new", "vote")}},
	{"Set of what counts", map[string]string{"vote": framesOf(set{2, 1})}, setTo(2, 1), nil},
	{"the first Save", nil, save("a"), []change{put("snap.new", framed("a")), sync("snap.new"), rename("snap.new", "snap")}},
	{"Save", map[string]string{"snap": framed("b"), "snap.new": "c"}, save("a"), []change{remove("snap.new"), put("snap.new", framed("a")), sync("snap.new"), rename("snap.new", "snap")}},
	{"Save behind what broke off", map[string]string{"snap": "b"}, save("a"), []change{put("snap.new", framed("a")), sync("snap.new"), rename("snap.new", "snap")}},
}

// diskOf is a disk of files, all sure.
func diskOf(want map[string]string) *files.Disk {
	d := files.New()
	for name, b := range want {
		d.Append(name, []byte(b))
		d.Sync(name)
	}
	return d
}

// keepAll keeps all bytes that are not sure.
func keepAll(d *files.Disk) []api.Keep {
	var l []api.Keep
	for _, name := range d.Names() {
		l = append(l, api.Keep{Name: name, N: 1 << 30})
	}
	return l
}

// alike wants two disks to have the same files, as much of them sure, and both power or none.
func alike(t *testing.T, what string, got, want *files.Disk) {
	t.Helper()
	if got.Off() != want.Off() || !slices.Equal(got.Names(), want.Names()) {
		t.Errorf("%s: off is %t, the files are %q, want %t, %q", what, got.Off(), got.Names(), want.Off(), want.Names())
	}
	for _, name := range want.Names() {
		n, sure := got.Size(name)
		if wantN, wantSure := want.Size(name); n != wantN || sure != wantSure {
			t.Errorf("%s: %s has %d bytes, %d sure, want %d, %d", what, name, n, sure, wantN, wantSure)
		}
	}
	got, want = got.Fork(), want.Fork()
	got.Crash(keepAll(got))
	want.Crash(keepAll(want))
	for _, name := range want.Names() {
		b, _ := got.Read(name)
		if wantB, _ := want.Read(name); string(b) != string(wantB) {
			t.Errorf("%s: %s has %q, want %q", what, name, b, wantB)
		}
	}
}

func TestThePowerGoesAtEachChange(t *testing.T) {
	for _, c := range calls {
		for n := range len(c.changes) + 1 {
			for _, torn := range []int{0, 1, 3, 1 << 20} {
				what := fmt.Sprint(c.name, " at change ", n, ", torn ", torn)
				d, plain := diskOf(c.files), diskOf(c.files)
				d.Stop(n, torn)
				plain.Stop(n, torn)
				want := api.OK
				for _, do := range c.changes {
					if want == api.OK {
						want = do(plain)
					}
				}
				says(t, what, c.do(d), want)
				alike(t, what, d, plain)
			}
		}
	}
}

func TestSetWithoutPower(t *testing.T) {
	d, v := votesOf(t, set{2, 1})
	d.Stop(0, 0)
	d.Append("other", nil)
	says(t, "Set", v.Set(3, 1), api.ErrOff)
	counts(t, v, set{2, 1})
	says(t, "Set of what counts", v.Set(2, 1), api.OK)
	says(t, "Set of what may not be", v.Set(3, 64), api.ErrArg)
	says(t, "Set of another vote", v.Set(2, 2), api.ErrVote)
}

// Votes whose disk refused something go on where they were, once there is power.
func TestSetAfterARefusal(t *testing.T) {
	for _, many := range []int{1, 31, 32} {
		for n := range 3 {
			for _, torn := range []int{0, 1, 3, 1 << 20} {
				for _, keep := range []bool{false, true} {
					l := sets(many)
					d, v := votesOf(t, l...)
					d.Stop(n, torn)
					if e := v.Set(98, 1); e == api.OK {
						continue
					}
					counts(t, v, l[many-1])
					if keep {
						d.Crash(keepAll(d))
					} else {
						d.Crash(nil)
					}
					counts(t, v, l[many-1])
					says(t, "Set", v.Set(99, 2), api.OK)
					counts(t, v, set{99, 2})
					d.Crash(nil)
					counts(t, open(t, d), set{99, 2})
				}
			}
		}
	}
}

func TestADiskWithoutRoom(t *testing.T) {
	for _, many := range []int{0, 1, 32} {
		l := append([]set{nobody}, sets(many)...)
		d, v := votesOf(t, l...)
		says(t, "Save", vote.Save(d, []byte("a")), api.OK)
		for i := len(d.Names()); i < 256; i++ {
			d.Append(fmt.Sprint("f", i), nil)
		}
		want := api.ErrFull
		if many == 1 {
			want = api.OK
		}
		says(t, "Set", v.Set(99, 1), want)
		if want != api.OK {
			counts(t, v, l[many])
			counts(t, open(t, d), l[many])
			says(t, "Set of another one", v.Set(98, 2), want)
		}
		says(t, "Save", vote.Save(d, []byte("b")), api.ErrFull)
		if b, e := vote.Load(d); e != api.OK || string(b) != "a" {
			t.Errorf("Load = %q, %d", b, e)
		}
		d.Remove("f255")
		says(t, "Set", v.Set(99, 1), api.OK)
		d.Remove("f254")
		says(t, "Save", vote.Save(d, []byte("b")), api.OK)
		counts(t, open(t, d), set{99, 1})
	}
}

// P12.3: behind crashes, by calls that chance makes, always the same ones.

// anyKeep is what a crash keeps of all files: nothing, all, or some.
func anyKeep(r *sample.Chance, d *files.Disk) []api.Keep {
	var l []api.Keep
	switch r.Below(3) {
	case 0:
		l = keepAll(d)
	case 1:
		for _, name := range d.Names() {
			l = append(l, api.Keep{Name: name, N: r.Below(20)})
		}
	}
	return l
}

func TestVotesBehindCrashes(t *testing.T) {
	r := sample.Chance(12)
	d, was, news := files.New(), nobody, 0
	for range 5000 {
		v := open(t, d)
		counts(t, v, was)
		d.Stop(r.Below(60), r.Below(9))
		next := was
		for !d.Off() && r.Below(50) > 0 {
			was = next
			if next = (set{was.term + 1, r.Below(65) - 1}); r.Below(2) == 0 && was.node == -1 {
				next = set{was.term, r.Below(64)}
			}
			e := v.Set(next.term, next.node)
			if e == api.OK {
				was = next
			}
			counts(t, v, was)
		}
		says(t, "Crash", d.Crash(anyKeep(&r, d)), api.OK)
		v = open(t, d)
		switch got := (set{v.Term(), v.For()}); {
		case got != was && got == next:
			news++
		case got != was:
			t.Fatalf("behind a crash %v counts, which is neither %v nor %v", got, was, next)
		}
		was = set{v.Term(), v.For()}
		// What is left of a file that was to take its place is gone.
		for _, name := range d.Names() {
			if name != "vote" {
				t.Fatalf("there is a file %q", name)
			}
		}
	}
	if news < 100 {
		t.Errorf("what was in the middle of being noted counted just %d times", news)
	}
}

func TestSnapshotsBehindCrashes(t *testing.T) {
	r := sample.Chance(13)
	d, was, olds, news := files.New(), "", 0, 0
	says(t, "Save", vote.Save(d, nil), api.OK)
	for n := range 5000 {
		d.Stop(r.Below(10), r.Below(40))
		next := was
		for !d.Off() {
			was, next = next, fmt.Sprint(n, strings.Repeat("s", r.Below(30)))
			if e := vote.Save(d, []byte(next)); e == api.OK {
				was = next
			}
		}
		says(t, "Crash", d.Crash(anyKeep(&r, d)), api.OK)
		b, e := vote.Load(d)
		switch got := string(b); {
		case e == api.OK && got == was:
			olds++
		case e == api.OK && got == next:
			news++
		default:
			t.Fatalf("behind a crash is loaded %q, %d, which is neither %q nor %q", got, e, was, next)
		}
		was = string(b)
	}
	if olds < 100 {
		t.Errorf("the older one was loaded just %d times, the newer one %d times", olds, news)
	}
}
