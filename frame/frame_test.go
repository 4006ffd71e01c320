package frame_test

import (
	"bytes"
	"fmt"
	"hash/crc32"
	"slices"
	"strings"
	"testing"

	"tributary/api"
	"tributary/frame"
	"tributary/sample"
)

func letters(n int) string { return strings.Repeat("x", n) }

// noise is n bytes that chance makes, always the same ones.
func noise(seed, n int) string {
	c, b := sample.Chance(seed), make([]byte, n)
	for i := range b {
		b[i] = byte(c.Below(256))
	}
	return string(b)
}

// summed is b, and the sum of it behind, as frames have it.
func summed(b string) string {
	x := crc32.ChecksumIEEE([]byte(b))
	return b + string([]byte{byte(x), byte(x >> 8), byte(x >> 16), byte(x >> 24)})
}

// lengths are codes of how many bytes a body has, at the edges of how long these codes are.
var lengths = map[int]string{
	0: "\x00", 1: "\x01", 2: "\x02", 6: "\x06", 126: "\x7e", 127: "\x7f", 128: "\x80\x01", 300: "\xac\x02",
	16383: "\xff\x7f", 16384: "\x80\x80\x01", 1<<16 - 1: "\xff\xff\x03", 1 << 16: "\x80\x80\x04",
}

// framed is the frame of a body whose length stands in lengths.
func framed(body string) string { return summed(lengths[len(body)] + body) }

// framesOf is the frames of bodies, one behind the other, and where each ends.
func framesOf(bodies ...string) (string, []int) {
	all, ends := "", []int(nil)
	for _, body := range bodies {
		all += framed(body)
		ends = append(ends, len(all))
	}
	return all, ends
}

// stands wants just these bodies' frames to stand in b, of n bytes in all.
func stands(t *testing.T, what, b string, n int, bodies ...string) {
	t.Helper()
	got, gotN := frame.Scan([]byte(b))
	if gotN != n || !slices.EqualFunc(got, bodies, func(x []byte, y string) bool { return string(x) == y }) {
		t.Errorf("%s: Scan(%.40q) = %.80q, %d, want %.80q, %d", what, b, got, gotN, bodies, n)
	}
}

// P10.1: Sum, Put, Size.

func TestSum(t *testing.T) {
	for b, want := range map[string]int{
		"": 0, "\x00": 0xD202EF8D, "\xff": 0xFF000000, "a": 0xE8B7BE43, "abc": 0x352441C2, "123456789": 0xCBF43926,
		"\x00\x00\x00\x00": 0x2144DF1C, "\xff\xff\xff\xff": 0xFFFFFFFF, "The quick brown fox jumps over the lazy dog": 0x414FA339,
	} {
		if got := frame.Sum([]byte(b)); got != want {
			t.Errorf("Sum(%q) = %#x, want %#x", b, got, want)
		}
	}
	for n := range 300 {
		b := []byte(noise(n, n))
		if got, want := frame.Sum(b), int(crc32.ChecksumIEEE(b)); got != want {
			t.Errorf("Sum(%q) = %#x, want %#x", b, got, want)
		}
	}
	b := []byte(noise(1, 1<<20))
	if got, want := frame.Sum(b), int(crc32.ChecksumIEEE(b)); got != want {
		t.Errorf("Sum of 2^20 bytes = %#x, want %#x", got, want)
	}
	for x := range 256 {
		b := []byte{byte(x)}
		if got, want := frame.Sum(b), int(crc32.ChecksumIEEE(b)); got != want {
			t.Errorf("Sum(%q) = %#x, want %#x", b, got, want)
		}
	}
}

func TestPut(t *testing.T) {
	if got, e := frame.Put(nil, nil); e != api.OK || string(got) != "\x00\x8d\xef\x02\xd2" {
		t.Errorf("the frame of no bytes is %q, %d", got, e)
	}
	for n := range lengths {
		for _, body := range []string{letters(n), noise(n, n), strings.Repeat("\x00", n)} {
			for _, b := range []string{"", "b", "\x00\xff", framed("")} {
				got, e := frame.Put([]byte(b), []byte(body))
				if want := b + framed(body); e != api.OK || string(got) != want {
					t.Errorf("Put(%q, %d bytes) = %.40q, %d, want %.40q", b, n, got, e, want)
				}
			}
		}
	}
}

func TestTooLong(t *testing.T) {
	for _, n := range []int{1<<16 + 1, 1<<16 + 2, 1 << 17, 1 << 20} {
		body := []byte(letters(n))
		for _, b := range []string{"", "b"} {
			if got, e := frame.Put([]byte(b), body); e != api.ErrLong || len(got) != 0 {
				t.Errorf("Put(%q, %d bytes) = %.40q, %d, want ErrLong", b, n, got, e)
			}
		}
		if got := frame.Size(body); got != 0 {
			t.Errorf("Size of %d bytes = %d, want 0", n, got)
		}
	}
}

func TestSize(t *testing.T) {
	for n, want := range map[int]int{0: 5, 1: 6, 127: 132, 128: 134, 16383: 16389, 16384: 16391, 1<<16 - 1: 65542, 1 << 16: 65543} {
		body := []byte(noise(n, n))
		if got := frame.Size(body); got != want {
			t.Errorf("Size of %d bytes = %d, want %d", n, got, want)
		}
		if b, _ := frame.Put(nil, body); len(b) != want {
			t.Errorf("the frame of %d bytes has %d", n, len(b))
		}
	}
}

// P10.2: Scan.

func TestScan(t *testing.T) {
	for _, bodies := range [][]string{
		nil, {""}, {"a"}, {"", ""}, {"a", "", "bc"}, {"\x00", "\xff"}, slices.Repeat([]string{""}, 1000),
		{letters(127), letters(128), letters(126)}, {letters(1 << 16)}, {letters(1<<16 - 1), letters(1 << 16), "a"}, {noise(1, 16384), noise(2, 16383)},
		{framed("a"), framed("")[:2], "a"},
	} {
		all, _ := framesOf(bodies...)
		stands(t, "frames", all, len(all), bodies...)
	}
	stands(t, "nothing", "", 0)
}

func TestScanStopsAtWhatIsNoFrame(t *testing.T) {
	good, _ := framesOf("a", "bc")
	turned := func(b string) string {
		x := []byte(b)
		slices.Reverse(x[len(x)-4:])
		return string(x)
	}
	for what, b := range map[string]string{
		"a byte":                           "\x00",
		"zeros":                            "\x00\x00\x00\x00\x00",
		"many zeros":                       strings.Repeat("\x00", 100),
		"ones":                             strings.Repeat("\xff", 100),
		"letters":                          "abcdefghijklmnopqrstuvwxyz",
		"a sum's bytes the wrong way":      turned(framed("a")),
		"the sum of the body alone":        "\x01a" + summed("a")[1:],
		"the sum of another length":        "\x01a" + summed("\x02a")[2:],
		"no sum":                           "\x01a",
		"a sum of three bytes":             framed("a")[:5],
		"a sum that is not turned":         "\x00\x72\x10\xfd\x2d",
		"a length of two groups, for 0":    summed("\x80\x00"),
		"a length of two groups, for 1":    summed("\x81\x00a"),
		"a length of three groups":         summed("\x81\x80\x00a"),
		"a length that goes on to nothing": "\x80\x80\x80",
		"a length of eleven groups":        summed("\xff\xff\xff\xff\xff\xff\xff\xff\xff\xff\x01"),
		"a length above all":               summed("\xff\xff\xff\xff\xff\xff\xff\xff\xff\x01"),
		"one byte too many":                summed("\x81\x80\x04" + letters(1<<16+1)),
		"many bytes too many":              summed("\x80\x80\x08" + letters(1<<17)),
		"a body with more than is there":   "\x05abcd" + summed("\x05abcd")[5:],
		"a number's code, not a count's":   summed("\x02a"),
	} {
		stands(t, what, b, 0)
		stands(t, what+", behind frames", good+b, len(good), "a", "bc")
		stands(t, what+", between frames", good+b+good, len(good), "a", "bc")
	}
}

func TestScanStopsAtABrokenFrame(t *testing.T) {
	bodies := []string{"a", "", noise(3, 128), "bc"}
	all, ends := framesOf(bodies...)
	for at := range len(all) {
		broken := 0
		for ends[broken] <= at {
			broken++
		}
		begin := 0
		if broken > 0 {
			begin = ends[broken-1]
		}
		for bit := range 8 {
			b := []byte(all)
			b[at] ^= 1 << bit
			stands(t, fmt.Sprintf("bit %d of byte %d is turned", bit, at), string(b), begin, bodies[:broken]...)
		}
	}
}

func TestScanOfAnyBytes(t *testing.T) {
	c, stood := sample.Chance(7), 0
	for range 50000 {
		var b []byte
		for range c.Below(4) {
			b, _ = frame.Put(b, []byte(noise(c.Below(1000), c.Below(4))))
		}
		for range c.Below(3) {
			switch at := c.Below(len(b) + 1); c.Below(3) {
			case 0:
				b = slices.Insert(b, at, byte(c.Below(256)))
			case 1:
				b = b[:at]
			case 2:
				b = append(b[at:], b[:at]...)
			}
		}
		bodies, n := frame.Scan(b)
		var again []byte
		for _, body := range bodies {
			again, _ = frame.Put(again, body)
		}
		if string(again) != string(b[:n]) {
			t.Fatalf("Scan(%q) = %q, %d", b, bodies, n)
		}
		if more, behind := frame.Scan(b[n:]); len(more) != 0 || behind != 0 {
			t.Fatalf("behind the frames that stand in %q stand %q", b, more)
		}
		stood += len(bodies)
	}
	if stood < 10000 {
		t.Error("just so many stood:", stood)
	}
}

// P10.3: of frames one behind the other, cut off anywhere, just those stand that are whole.

func TestCutOffAnywhere(t *testing.T) {
	bodies := []string{"", "a", noise(4, 300), "bc", "", letters(127), noise(5, 128), ""}
	var all []byte
	var ends []int
	for i, body := range bodies {
		next, e := frame.Put(all, []byte(body))
		if e != api.OK || len(next) != len(all)+frame.Size([]byte(body)) || !bytes.HasPrefix(next, all) {
			t.Fatalf("the frame %d: %d", i, e)
		}
		all = next
		ends = append(ends, len(all))
	}
	for n := range len(all) + 1 {
		whole, end := 0, 0
		for whole < len(ends) && ends[whole] <= n {
			end = ends[whole]
			whole++
		}
		stands(t, fmt.Sprint("cut off at ", n), string(all[:n]), end, bodies[:whole]...)
	}
	big, ends := framesOf(letters(1<<16), noise(6, 1<<16))
	for _, n := range []int{0, 1, 3, 1 << 15, ends[0] - 1, ends[0], ends[0] + 1, ends[1] - 1} {
		if n < ends[0] {
			stands(t, "a large one cut off", big[:n], 0)
		} else {
			stands(t, "a large one cut off", big[:n], ends[0], letters(1<<16))
		}
	}
}

// What is handed in is not changed and not kept; what is answered is new memory.

func TestPutChangesAndKeepsNothing(t *testing.T) {
	room, body := []byte("bbROOMROOMROOMROOMROOM"), []byte("abcROOM")
	wasRoom, wasBody := slices.Clone(room), slices.Clone(body)
	got, _ := frame.Put(room[:2], body[:2])
	other, _ := frame.Put(room[:2], body[:2])
	frame.Size(body[:2])
	frame.Sum(room[:2])
	want := slices.Clone(got)
	clear(other[:cap(other)])
	if !slices.Equal(room, wasRoom) || !slices.Equal(body, wasBody) {
		t.Errorf("what was handed in is changed: %q, %q", room, body)
	}
	clear(room)
	clear(body)
	if !slices.Equal(got, want) {
		t.Errorf("the answer changes with what was handed in, or another answer: %q", got)
	}
	// Also where there is nothing to put behind, or nothing ahead to be copied.
	b := make([]byte, 0, 100)
	got, _ = frame.Put(b, nil)
	clear(b[:100])
	if string(got) != "\x00\x8d\xef\x02\xd2" {
		t.Errorf("the answer lies in the room of what was handed in: %q", got)
	}
}

func TestScanChangesAndKeepsNothing(t *testing.T) {
	all, _ := framesOf("a", "", "bc", "bc")
	room := []byte(all + framed("a"))
	b := room[:len(all)]
	got, n := frame.Scan(b)
	if string(room) != all+framed("a") {
		t.Errorf("what was handed in is changed: %q", room)
	}
	if n != len(all) || len(got) != 4 {
		t.Fatalf("Scan = %q, %d", got, n)
	}
	again, _ := frame.Scan(b)
	for i := range again {
		clear(again[i][:cap(again[i])])
	}
	clear(again[:cap(again)])
	clear(room)
	for i, want := range []string{"a", "", "bc", "bc"} {
		if string(got[i]) != want {
			t.Errorf("body %d became %q", i, got[i])
		}
		for k := range got[i][:cap(got[i])] {
			got[i][:cap(got[i])][k] = '!'
		}
	}
}
