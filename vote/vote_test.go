package vote_test

import (
	"fmt"
	"math"
	"slices"
	"strings"
	"testing"

	"tributary/api"
	"tributary/files"
	"tributary/frame"
	"tributary/varint"
	"tributary/vote"
)

// says wants a call's answer to be a code.
func says(t *testing.T, call string, got, want api.Errno) {
	t.Helper()
	if got != want {
		t.Errorf("%s = %d, want %d", call, got, want)
	}
}

// framed is the frames of bodies, one behind the other.
func framed(bodies ...string) string {
	var b []byte
	for _, body := range bodies {
		b, _ = frame.Put(b, []byte(body))
	}
	return string(b)
}

// ballot is the body of a term and a vote.
func ballot(term, node int) string {
	code, _ := varint.Count(term)
	return string(code) + string(varint.Int(node))
}

// set is a term and a vote; sets are such that may follow one another.
type set struct{ term, node int }

func sets(n int) []set {
	var l []set
	for i := range n {
		l = append(l, set{1 + i/2, i%2*(i%5+1) - 1})
	}
	return l
}

// framesOf is the frames of votes, one behind the other.
func framesOf(l ...set) string {
	b := ""
	for _, s := range l {
		b += framed(ballot(s.term, s.node))
	}
	return b
}

// open is the votes on a disk that refuses nothing.
func open(t *testing.T, d *files.Disk) *vote.Votes {
	t.Helper()
	v, e := vote.Open(d)
	if e != api.OK || v == nil {
		t.Fatalf("Open = %v, %d", v, e)
	}
	return v
}

// counts wants a term and a vote to count.
func counts(t *testing.T, v *vote.Votes, want set) {
	t.Helper()
	if got := (set{v.Term(), v.For()}); got != want {
		t.Errorf("what counts is %v, want %v", got, want)
	}
}

// file wants a file to be there with bytes, all of them sure, or not to be there.
func file(t *testing.T, d *files.Disk, name, want string) {
	t.Helper()
	b, e := d.Read(name)
	if e != api.OK || string(b) != want {
		t.Errorf("%s has %.100q, %d, want %.100q", name, b, e, want)
	}
	if n, sure := d.Size(name); n != sure {
		t.Errorf("of %d bytes of %s %d are sure", n, name, sure)
	}
}

// named wants a disk to have just files of these names.
func named(t *testing.T, d *files.Disk, want ...string) {
	t.Helper()
	if !slices.Equal(d.Names(), want) {
		t.Errorf("the files are %q, want %q", d.Names(), want)
	}
}

// votesOf is votes that were set on a new disk, one after the other.
func votesOf(t *testing.T, l ...set) (*files.Disk, *vote.Votes) {
	t.Helper()
	d := files.New()
	v := open(t, d)
	for _, s := range l {
		says(t, fmt.Sprint("Set", s), v.Set(s.term, s.node), api.OK)
	}
	return d, v
}

var nobody = set{0, -1}

// P12.1: terms and votes.

func TestOpenOfNothing(t *testing.T) {
	if v, e := vote.Open(nil); v != nil || e != api.ErrArg {
		t.Errorf("Open(nil) = %v, %d", v, e)
	}
	d := files.New()
	d.Append("other", []byte("a"))
	counts(t, open(t, d), nobody)
	named(t, d, "other")
}

func TestOpenWithoutPower(t *testing.T) {
	full, _ := votesOf(t, sets(3)...)
	for _, d := range []*files.Disk{files.New(), full} {
		d.Stop(0, 0)
		if _, e := vote.Open(d); e != api.OK || d.Off() {
			t.Errorf("Open = %d, where nothing is to be changed", e)
		}
		d.Append("other", nil)
		if v, e := vote.Open(d); v != nil || e != api.ErrOff {
			t.Errorf("Open = %v, %d, where the power is gone", v, e)
		}
	}
}

func TestNilVotes(t *testing.T) {
	for _, v := range []*vote.Votes{nil, {}} {
		counts(t, v, set{0, -1})
		for _, s := range []set{{0, -1}, {1, 1}, {-1, 0}, {1, 64}} {
			says(t, "Set", v.Set(s.term, s.node), api.ErrClosed)
		}
	}
}

func TestSet(t *testing.T) {
	l := []set{{0, 5}, {1, -1}, {1, 0}, {2, 63}, {3, -1}, {127, 1}, {128, 1}, {1<<40 - 1, 2}, {1 << 40, -1}, {1 << 40, 6}}
	d := files.New()
	v := open(t, d)
	for i, s := range l {
		says(t, fmt.Sprint("Set", s), v.Set(s.term, s.node), api.OK)
		counts(t, v, s)
		file(t, d, "vote", framesOf(l[:i+1]...))
		named(t, d, "vote")
		counts(t, open(t, d), s)
		says(t, "Crash", d.Crash(nil), api.OK)
		counts(t, open(t, d), s)
	}
}

func TestExample(t *testing.T) {
	d, v := votesOf(t, set{3, 1})
	says(t, "Set(3, 2)", v.Set(3, 2), api.ErrVote)
	file(t, d, "vote", framesOf(set{3, 1}))
	says(t, "Set(4, 2)", v.Set(4, 2), api.OK)
	file(t, d, "vote", framesOf(set{3, 1}, set{4, 2}))
}

func TestSetThatMayNotBe(t *testing.T) {
	for _, was := range [][]set{nil, {{5, -1}}, {{5, 2}}, {{1 << 40, 0}}} {
		d, v := votesOf(t, was...)
		before := set{v.Term(), v.For()}
		for _, s := range []set{
			{-1, 0}, {-1, -1}, {math.MinInt, 0}, {1<<40 + 1, 0}, {math.MaxInt, -1},
			{6, -2}, {6, 64}, {5, 64}, {0, math.MinInt}, {1 << 40, math.MaxInt}, {-1, 64}, {4, -2},
		} {
			says(t, fmt.Sprint("Set", s), v.Set(s.term, s.node), api.ErrArg)
		}
		counts(t, v, before)
		counts(t, open(t, d), before)
	}
}

func TestSetOfAnotherVote(t *testing.T) {
	for _, c := range []struct{ was, set set }{
		{set{5, 2}, set{5, 3}}, {set{5, 2}, set{5, -1}}, {set{5, 2}, set{4, 2}}, {set{5, 2}, set{0, -1}}, {set{5, -1}, set{4, -1}}, {set{5, -1}, set{4, 3}}, {set{0, 0}, set{0, 1}}, {set{0, 0}, set{0, -1}},
		{set{1 << 40, 63}, set{1 << 40, 62}},
	} {
		d, v := votesOf(t, c.was)
		d.Stop(0, 0)
		says(t, fmt.Sprint("Set", c.set, " behind ", c.was), v.Set(c.set.term, c.set.node), api.ErrVote)
		d.Stop(-1, 0)
		counts(t, v, c.was)
		file(t, d, "vote", framesOf(c.was))
	}
}

func TestSetOfWhatCounts(t *testing.T) {
	for _, s := range []set{{0, -1}, {0, 3}, {5, -1}, {5, 2}} {
		d, v := votesOf(t, s)
		d.Stop(0, 0)
		for range 3 {
			says(t, fmt.Sprint("Set", s, " again"), v.Set(s.term, s.node), api.OK)
		}
		if d.Off() {
			t.Error("what counts was noted again")
		}
		counts(t, v, s)
	}
	d, v := votesOf(t, nobody)
	says(t, "Set of nobody", v.Set(0, -1), api.OK)
	named(t, d)
}

func TestManyVotes(t *testing.T) {
	l := sets(100)
	d := files.New()
	v := open(t, d)
	first := 0
	for i, s := range l {
		says(t, "Set", v.Set(s.term, s.node), api.OK)
		// The 33rd one is alone in a new file.
		if i-first == 32 {
			first = i
		}
		file(t, d, "vote", framesOf(l[first:i+1]...))
		named(t, d, "vote")
		if i%7 == 0 {
			v = open(t, d)
		}
		counts(t, v, s)
	}
}

func TestWhatCounts(t *testing.T) {
	no := []string{"", "\x05", ballot(5, 1) + "\x00", ballot(1<<40+1, 1), ballot(5, 64), ballot(5, -2), "\x85\x00\x02", "\x05\x82\x00", string(varint.Int(-5)) + "\x02\x02", strings.Repeat("\xff", 10)}
	for _, c := range []struct {
		l    []string
		want set
	}{
		{nil, nobody},
		{[]string{ballot(5, 1)}, set{5, 1}},
		{[]string{ballot(5, 1), ballot(5, 2)}, set{5, 2}},
		{[]string{ballot(5, 1), ballot(3, -1)}, set{3, -1}},
		{[]string{ballot(1<<40, 63), ballot(0, -1)}, nobody},
		{[]string{ballot(0, -1), ballot(1<<40, 63)}, set{1 << 40, 63}},
	} {
		for n := range len(no) {
			// What is no vote is passed over, wherever it stands, and is a frame all the same.
			bodies := slices.Concat(no[:n], c.l, no[n:])
			d := files.New()
			d.Append("vote", []byte(framed(bodies...)))
			d.Sync("vote")
			counts(t, open(t, d), c.want)
			file(t, d, "vote", framed(bodies...))
			says(t, "Set", open(t, d).Set(1<<40, 62), map[bool]api.Errno{false: api.OK, true: api.ErrVote}[c.want == set{1 << 40, 63}])
		}
	}
}

func TestFramesOfAllKindsAreMany(t *testing.T) {
	for n, want := range map[int]string{31: framed(slices.Repeat([]string{""}, 31)...) + framesOf(set{7, 1}), 32: framesOf(set{7, 1}), 33: framesOf(set{7, 1}), 500: framesOf(set{7, 1})} {
		d := files.New()
		d.Append("vote", []byte(framed(slices.Repeat([]string{""}, n)...)))
		v := open(t, d)
		counts(t, v, nobody)
		says(t, "Set", v.Set(7, 1), api.OK)
		file(t, d, "vote", want)
		counts(t, open(t, d), set{7, 1})
	}
}

func TestOpenCutsOffAndRemoves(t *testing.T) {
	for _, tail := range []string{"junk", "\x00", framesOf(set{9, 9})[:6], "\x01" + framesOf(set{9, 9})} {
		d := files.New()
		d.Append("vote", []byte(framesOf(set{3, 1}, set{4, 2})+tail))
		d.Append("vote.new", []byte(framesOf(set{9, 9})))
		d.Append("snap.new", []byte("snap"))
		d.Append("votes", []byte("other"))
		d.Sync("vote")
		v := open(t, d)
		counts(t, v, set{4, 2})
		named(t, d, "snap.new", "vote", "votes")
		file(t, d, "vote", framesOf(set{3, 1}, set{4, 2}))
		says(t, "Set", v.Set(5, 0), api.OK)
		file(t, d, "vote", framesOf(set{3, 1}, set{4, 2}, set{5, 0}))
		counts(t, open(t, d), set{5, 0})
	}
	d := files.New()
	d.Append("vote.new", []byte(framesOf(set{9, 9})))
	counts(t, open(t, d), nobody)
	named(t, d)
}

// P12.2: snapshots.

func TestSaveAndLoad(t *testing.T) {
	d, _ := votesOf(t, set{3, 1})
	for _, b := range []string{"", "a", framed("a"), strings.Repeat("x", 1<<16), "\x00\xff", strings.Repeat("y", 1000), ""} {
		says(t, "Save", vote.Save(d, []byte(b)), api.OK)
		file(t, d, "snap", framed(b))
		file(t, d, "vote", framesOf(set{3, 1}))
		named(t, d, "snap", "vote")
		for range 2 {
			if got, e := vote.Load(d); e != api.OK || string(got) != b {
				t.Errorf("Load = %.40q, %d, want %.40q", got, e, b)
			}
			says(t, "Crash", d.Crash(nil), api.OK)
		}
	}
}

func TestSaveThatMayNotBe(t *testing.T) {
	says(t, "Save on no disk", vote.Save(nil, nil), api.ErrArg)
	says(t, "Save of too much on no disk", vote.Save(nil, make([]byte, 1<<16+1)), api.ErrArg)
	d := files.New()
	d.Append("snap.new", []byte("other"))
	for _, n := range []int{1<<16 + 1, 1 << 21} {
		says(t, "Save of too much", vote.Save(d, make([]byte, n)), api.ErrLong)
	}
	named(t, d, "snap.new")
	says(t, "Save", vote.Save(d, []byte("a")), api.OK)
	says(t, "Save of too much", vote.Save(d, make([]byte, 1<<16+1)), api.ErrLong)
	file(t, d, "snap", framed("a"))
	d.Stop(0, 0)
	d.Append("other", nil)
	says(t, "Save of too much without power", vote.Save(d, make([]byte, 1<<16+1)), api.ErrLong)
	says(t, "Save without power", vote.Save(d, []byte("b")), api.ErrOff)
}

// noSnap wants nothing to be loaded.
func noSnap(t *testing.T, d *files.Disk, want api.Errno) {
	t.Helper()
	if b, e := vote.Load(d); e != want || b != nil {
		t.Errorf("Load = %.40q, %d, want %d", b, e, want)
	}
}

func TestLoadOfNothing(t *testing.T) {
	noSnap(t, nil, api.ErrArg)
	d := files.New()
	noSnap(t, d, api.ErrNone)
	d.Append("snap.new", []byte(framed("a")))
	noSnap(t, d, api.ErrNone)
	for _, b := range []string{"", "a", framed("a", "b"), framed("", ""), framed("a") + "\x00", framed("a")[1:], framed("abc")[:7], "\x00" + framed("a")} {
		d := files.New()
		d.Append("snap", []byte(b))
		d.Stop(0, 0)
		noSnap(t, d, api.ErrNone)
		d.Stop(-1, 0)
		if got, _ := d.Read("snap"); string(got) != b {
			t.Errorf("behind Load the file is %q, which was %q", got, b)
		}
		says(t, "Save", vote.Save(d, []byte("c")), api.OK)
		file(t, d, "snap", framed("c"))
	}
}

func TestLoadWithoutPower(t *testing.T) {
	for _, b := range []string{framed("a"), "junk"} {
		d := files.New()
		d.Append("snap", []byte(b))
		d.Stop(0, 0)
		d.Append("other", nil)
		noSnap(t, d, api.ErrOff)
	}
	d := files.New()
	d.Stop(0, 0)
	d.Append("other", nil)
	noSnap(t, d, api.ErrOff)
}

// What is handed in is not changed and not kept; what is answered is new memory.

func TestMemory(t *testing.T) {
	d := files.New()
	room := []byte("abcdefgh")
	says(t, "Save", vote.Save(d, room[:3]), api.OK)
	if string(room) != "abcdefgh" {
		t.Errorf("behind Save the body is %q", room)
	}
	copy(room, "XXXXXXXX")
	one, _ := vote.Load(d)
	two, _ := vote.Load(d)
	for i := range one[:cap(one)] {
		one[:cap(one)][i] = 'Y'
	}
	three, _ := vote.Load(d)
	if string(two) != "abc" || string(three) != "abc" {
		t.Errorf("Load = %q, %q", two, three)
	}
}
