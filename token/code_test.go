package token_test

import (
	"encoding/binary"
	"hash/crc32"
	"slices"
	"testing"

	"tributary/api"
	"tributary/sample"
	"tributary/token"
	"tributary/varint"
)

// P18.1: Encode, Decode; P18.3: what was encoded is decoded.

// summed answers b with its sum behind it.
func summed(b string) string {
	return string(binary.LittleEndian.AppendUint32([]byte(b), crc32.ChecksumIEEE([]byte(b))))
}

// greatest is the code of 2^40.
const greatest = "\x80\x80\x80\x80\x80\x20"

// coded are the codes of tokens, without their sums.
var coded = map[string]api.Token{
	"\x01\x00\x00": entry(0, 0), "\x01\x05\x02": entry(5, 2), "\x02\x05\x02": end(5, 2), "\x01\x7f\x80\x01": entry(127, 128), "\x02\xac\x02\x01": end(300, 1),
	"\x01" + greatest + "\x01": entry(1<<40, 1), "\x02\x01" + greatest: end(1, 1<<40), "\x01" + greatest + greatest: entry(1<<40, 1<<40), "\x02" + greatest + greatest: end(1<<40, 1<<40),
}

// decodes asks whether b is the code of x.
func decodes(t *testing.T, b string, x api.Token) {
	t.Helper()
	if got, e := token.Decode([]byte(b)); e != api.OK || got != x {
		t.Errorf("Decode(%q) = %v, %d, want %v", b, got, e, x)
	}
}

// refuses asks for b, which is no code.
func refuses(t *testing.T, b string) {
	t.Helper()
	if got, e := token.Decode([]byte(b)); e != api.ErrToken || got != (api.Token{}) {
		t.Errorf("Decode(%q) = %v, %d", b, got, e)
	}
}

func TestEncode(t *testing.T) {
	for b, x := range coded {
		if got, e := token.Encode(x); e != api.OK || string(got) != summed(b) {
			t.Errorf("Encode(%v) = %q, %d, want %q", x, got, e, summed(b))
		}
		decodes(t, summed(b), x)
	}
	for _, x := range wrong() {
		if got, e := token.Encode(x); e != api.ErrToken || len(got) != 0 {
			t.Errorf("Encode(%v) = %q, %d", x, got, e)
		}
	}
}

func TestASumByteByByte(t *testing.T) {
	// The sum of 1, 5, 2 is 0x6DFA264C.
	const code = "\x01\x05\x02\x4c\x26\xfa\x6d"
	if got, e := token.Encode(entry(5, 2)); e != api.OK || string(got) != code {
		t.Errorf("Encode = %q, %d", got, e)
	}
	decodes(t, code, entry(5, 2))
	refuses(t, "\x01\x05\x02\x6d\xfa\x26\x4c")
}

func TestWhatWasEncodedIsDecoded(t *testing.T) {
	for _, x := range good() {
		b, e := token.Encode(x)
		if e != api.OK {
			t.Fatalf("Encode(%v): %d", x, e)
		}
		decodes(t, string(b), x)
		for n := range b {
			refuses(t, string(b[:n]))
			refuses(t, string(b[n+1:]))
		}
		for _, tail := range []string{"\x00", "\x01", string(b)} {
			refuses(t, string(b)+tail)
			refuses(t, tail+string(b))
		}
		sample.Changed(string(b), func(changed string) {
			if changed != string(b) {
				refuses(t, changed)
			}
		})
	}
}

func TestDecodeOfWhatIsNoCode(t *testing.T) {
	long := "\x80\x80\x80\x80\x80\x80\x80\x80\x40"
	for _, b := range []string{
		"", "\x00", "\x01", "\x01\x00", "\x00\x05\x02", "\x03\x05\x02", "\x04\x05\x02", "\x81\x05\x02", "\xff\x05\x02",
		"\x01\x00\x01", "\x01\x01\x00", "\x02\x00\x00", "\x02\x00\x01", "\x02\x01\x00",
		"\x01\x81\x80\x80\x80\x80\x20\x01", "\x01\x01\x81\x80\x80\x80\x80\x20", "\x02\x81\x80\x80\x80\x80\x20\x01", "\x01" + long + "\x01", "\x01\x01" + long, "\x01\xff\xff\xff\xff\xff\xff\xff\xff\xff\x01\x01",
		"\x01\x85\x00\x02", "\x01\x05\x82\x00", "\x01\x80\x00\x00", "\x01\x00\x80\x00", "\x81\x00\x05\x02", "\x01\x05", "\x01\x05\x80", "\x01\x05\x02\x00", "\x01\x05\x02\x01",
	} {
		refuses(t, b)
		refuses(t, summed(b))
		refuses(t, b+"\x00\x00\x00\x00")
	}
	refuses(t, "\x01\x05\x02"+summed("\x01\x05\x02")[3:]+"\x00")
	refuses(t, summed("\x01\x05\x02")[:3]+summed("\x01\x05\x03")[3:])
	refuses(t, summed(summed("\x01\x05\x02")))
}

// anyBytes asks for any bytes, and tells whether they are a code: whether they are one is asked of them step by step.
func anyBytes(t *testing.T, b string) bool {
	t.Helper()
	s := varint.From([]byte(b))
	x := api.Token{Kind: s.Byte()}
	x.Index = s.Count(1 << 40)
	x.Term = s.Count(1 << 40)
	body := b[:len(b)-s.Left()]
	if s.Bad() || !token.May(x) || b != summed(body) {
		refuses(t, b)
		return false
	}
	decodes(t, b, x)
	if again, e := token.Encode(x); e != api.OK || string(again) != b {
		t.Errorf("what is decoded of %q has the code %q", b, again)
	}
	return true
}

func TestAnyBytes(t *testing.T) {
	chance, found := sample.Chance(9), map[bool]int{}
	ask := func(b string) {
		found[anyBytes(t, b)]++
		found[anyBytes(t, summed(b))]++
	}
	sample.Behind("", "\x00\x01\x02\x03\x7f\x80\x81\xff", 5, ask)
	for b := range coded {
		sample.Changed(b, ask)
	}
	for range 20000 {
		ask(chance.Bytes(9))
	}
	if found[true] < 1000 || found[false] < 1000 {
		t.Error("just so many codes:", found)
	}
}

func TestCodesAreNewMemoryAndNothingIsChanged(t *testing.T) {
	one, _ := token.Encode(entry(5, 2))
	two, _ := token.Encode(entry(5, 2))
	clear(one[:cap(one)])
	if string(two) != summed("\x01\x05\x02") {
		t.Error("two codes are one")
	}
	room := []byte(summed("\x01\x05\x02") + "room")
	was := slices.Clone(room)
	if x, e := token.Decode(room[:len(room)-4]); e != api.OK || x != entry(5, 2) || !slices.Equal(room, was) {
		t.Errorf("Decode = %v, %d, and makes %q of %q", x, e, room, was)
	}
}
