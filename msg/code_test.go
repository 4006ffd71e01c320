package msg_test

import (
	"slices"
	"strings"
	"testing"

	"tributary/api"
	"tributary/entry"
	"tributary/msg"
	"tributary/sample"
	"tributary/varint"
)

// P22.1: Encode, Decode; P22.3: what was encoded is decoded, what was decoded has that code.

// greatest is the code of 2^40; beyond is that of one more.
const (
	greatest = "\x80\x80\x80\x80\x80\x20"
	beyond   = "\x81\x80\x80\x80\x80\x20"
)

// coded are messages, and their codes byte by byte.
func coded() []struct {
	m api.Msg
	b string
} {
	created := by(create("c"), 1, 2, 3)
	return []struct {
		m api.Msg
		b string
	}{
		{api.Msg{Kind: 2, From: 1, To: 2, Term: 3, Ok: true}, "\x02\x01\x02\x03\x01"},
		{api.Msg{Kind: 2, From: 6, To: 0, Term: 128}, "\x02\x06\x00\x80\x01\x00"},
		{api.Msg{Kind: 1, From: 0, To: 6, Term: 5, Index: 127, LogTerm: 128}, "\x01\x00\x06\x05\x7f\x80\x01"},
		{bare(1, 5, 4, 1), "\x01\x05\x04\x01\x00\x00"},
		{api.Msg{Kind: 1, To: 1, Term: mostTerm, Index: mostTerm, LogTerm: mostTerm}, "\x01\x00\x01" + greatest + greatest + greatest},
		{bare(3, 0, 1, 1), "\x03\x00\x01\x01\x00\x00\x00\x00\x00"},
		{api.Msg{Kind: 3, From: 2, To: 1, Term: 7, Index: 5, LogTerm: 6, Commit: 4, Round: 9, Entries: []api.Entry{by(noop, 3, 0, 0), created}}, "\x03\x02\x01\x07\x05\x06\x04\x09\x02" + "\x03\x01\x00\x00" + "\x01\x05\x02\x03\x01c"},
		{api.Msg{Kind: 3, From: 2, To: 1, Term: 7, Index: mostTerm, LogTerm: mostTerm, Commit: mostTerm, Round: mostTerm, Entries: slices.Repeat([]api.Entry{noop}, 8)}, "\x03\x02\x01\x07" + greatest + greatest + greatest + greatest + "\x08" + strings.Repeat("\x00\x01\x00\x00", 8)},
		{api.Msg{Kind: 4, From: 1, To: 0, Term: 2, Index: 5, Round: 3, Ok: true}, "\x04\x01\x00\x02\x05\x03\x01"},
		{api.Msg{Kind: 4, From: 1, To: 0, Term: 2, Index: mostTerm, Round: mostTerm}, "\x04\x01\x00\x02" + greatest + greatest + "\x00"},
		{api.Msg{Kind: 5, From: 2, To: 3, Term: 1, Index: 5, LogTerm: 2, Snap: []byte("\x00\xffa")}, "\x05\x02\x03\x01\x05\x02\x03\x00\xffa"},
		{api.Msg{Kind: 5, From: 2, To: 3, Term: 1, Snap: []byte(letters(1 << 16))}, "\x05\x02\x03\x01\x00\x00\x80\x80\x04" + letters(1<<16)},
	}
}

// decodes asks whether b is the code of m.
func decodes(t *testing.T, b string, m api.Msg) {
	t.Helper()
	if got, e := msg.Decode([]byte(b)); e != api.OK || !alike(got, m) {
		t.Errorf("Decode(%s) = %s, %d, want %s", show(b), show(got), e, show(m))
	}
}

// refuses asks for b, which is no code.
func refuses(t *testing.T, b string) {
	t.Helper()
	if got, e := msg.Decode([]byte(b)); e != api.ErrCode || !alike(got, none) {
		t.Errorf("Decode(%.100q) = %s, %d", b, show(got), e)
	}
}

func TestCodesByteByByte(t *testing.T) {
	for _, c := range coded() {
		if got, e := msg.Encode(c.m); e != api.OK || string(got) != c.b {
			t.Errorf("Encode(%s) = %.100q, %d, want %.100q", show(c.m), got, e, c.b)
		}
		decodes(t, c.b, c.m)
	}
}

func TestEncodeRefuses(t *testing.T) {
	for _, m := range wrong() {
		if got, e := msg.Encode(m); e != api.ErrArg || len(got) != 0 {
			t.Errorf("Encode(%s) = %.100q, %d", show(m), got, e)
		}
	}
}

func TestWhatWasEncodedIsDecoded(t *testing.T) {
	for _, m := range good() {
		b, e := msg.Encode(m)
		if e != api.OK {
			t.Fatalf("Encode(%s): %d", show(m), e)
		}
		decodes(t, string(b), m)
		for _, tail := range []string{"\x00", "\x01", "\xff", string(b)} {
			refuses(t, string(b)+tail)
		}
		for n := range b[:min(len(b), 200)] {
			refuses(t, string(b[:n]))
			refuses(t, string(b[:len(b)-1-n]))
		}
	}
}

func TestDecodeOfWhatIsNoCode(t *testing.T) {
	for _, b := range []string{
		"", "\x02", "\x02\x01", "\x02\x01\x02", "\x02\x01\x02\x03", "\x00\x01\x02\x03\x01", "\x06\x01\x02\x03\x01", "\x82\x01\x02\x03\x01", "\xff\x01\x02\x03\x01",
		// Nodes, terms, and the byte of Ok.
		"\x02\x07\x02\x03\x01", "\x02\x01\x07\x03\x01", "\x02\x02\x02\x03\x01", "\x02\x81\x02\x03\x01", "\x02\x01\xff\x03\x01", "\x02\x01\x02\x00\x01", "\x02\x01\x02" + beyond + "\x01", "\x02\x01\x02\x83\x00\x01", "\x02\x01\x02\x03\x02", "\x02\x01\x02\x03\xff", "\x02\x01\x02\x03\x81\x00", "\x02\x01\x02\x03\x80\x01",
		// Numbers beyond their bounds, and of more bytes than they need.
		"\x01\x00\x01\x01" + beyond + "\x00", "\x01\x00\x01\x01\x00" + beyond, "\x01\x00\x01\x01\x80\x00\x00", "\x01\x00\x01\x01\x00\x85\x00", "\x04\x00\x01\x01\x00" + beyond + "\x00", "\x03\x00\x01\x01\x00\x00" + beyond + "\x00\x00", "\x03\x00\x01\x01\x00\x00\x00" + beyond + "\x00",
		// Lists.
		"\x03\x00\x01\x01\x00\x00\x00\x00", "\x03\x00\x01\x01\x00\x00\x00\x00\x01", "\x03\x00\x01\x01\x00\x00\x00\x00\x01\x00\x00\x00\x00", "\x03\x00\x01\x01\x00\x00\x00\x00\x01\x00\x01\x01\x00", "\x03\x00\x01\x01\x00\x00\x00\x00\x02\x00\x01\x00\x00", "\x03\x00\x01\x01\x00\x00\x00\x00\x80\x00",
		"\x03\x00\x01\x01\x00\x00\x00\x00\x09" + strings.Repeat("\x00\x01\x00\x00", 9), "\x03\x00\x01\x01\x00\x00\x00\x00" + greatest, "\x03\x00\x01\x01\x00\x00\x00\x00\x00\x00",
		"\x05\x00\x01\x01\x00\x00", "\x05\x00\x01\x01\x00\x00\x00", "\x05\x00\x01\x01\x00\x00\x02a", "\x05\x00\x01\x01\x00\x00\x01ab", "\x05\x00\x01\x01\x00\x00\x81\x00a", "\x05\x00\x01\x01\x00\x00\x81\x80\x04" + letters(1<<16+1), "\x05\x00\x01\x01\x00\x00\x80\x80\x04" + letters(1<<16-1), "\x05\x00\x01\x01\x00\x00" + greatest + "a",
		// What is another kind's.
		"\x01\x00\x01\x01\x00", "\x01\x00\x01\x01\x00\x00\x00", "\x02\x00\x01\x01\x00\x00", "\x04\x00\x01\x01\x00\x00", "\x04\x00\x01\x01\x00\x00\x00\x00",
	} {
		refuses(t, b)
	}
}

// plain answers the message whose code b is, and whether it is one, as the chapter's words say it, field by field.
func plain(b string) (api.Msg, bool) {
	s := varint.From([]byte(b))
	m := api.Msg{Kind: s.Byte()}
	m.From = s.Byte()
	m.To = s.Byte()
	m.Term = s.Count(mostTerm)
	is := m.Kind >= 1 && m.Kind <= 5 && m.From < 7 && m.To < 7 && m.From != m.To && m.Term > 0
	for _, field := range theirs[m.Kind] {
		switch field {
		case 'O':
			x := s.Byte()
			m.Ok = x == 1
			is = is && x < 2
		case 'E':
			n := s.Count(8)
			for range n {
				m.Entries = append(m.Entries, entry.Read(s))
			}
		case 'S':
			m.Snap = []byte(s.Text(1 << 16))
			is = is && len(m.Snap) > 0
		default:
			m = with(m, field, s.Count(mostTerm))
		}
	}
	return m, is && s.Done() == api.OK
}

// anyBytes asks for any bytes, and tells whether they are a code.
func anyBytes(t *testing.T, b string) bool {
	t.Helper()
	m, is := plain(b)
	if !is {
		refuses(t, b)
		return false
	}
	decodes(t, b, m)
	if again, e := msg.Encode(m); e != api.OK || string(again) != b {
		t.Errorf("what is decoded of %.100q has the code %.100q", b, again)
	}
	return true
}

func TestShortBytes(t *testing.T) {
	found := map[bool]int{}
	ask := func(b string) { found[anyBytes(t, b)]++ }
	for _, head := range []string{"", "\x01\x00\x01", "\x02\x00\x01", "\x03\x00\x01\x01\x00\x00", "\x03\x00\x01\x01\x00\x00\x00\x00\x01\x00", "\x04\x00\x01", "\x05\x00\x01\x01", "\x05\x00\x01\x01\x00\x00"} {
		sample.Behind(head, "\x00\x01\x02\x03\x04\x05\x06\x07\x80\xff", 4, ask)
	}
	if found[true] < 1000 || found[false] < 10000 {
		t.Error("just so many codes:", found)
	}
}

func TestAnyBytes(t *testing.T) {
	chance, found := sample.Chance(22), map[bool]int{}
	ask := func(b string) { found[anyBytes(t, b)]++ }
	for _, c := range coded() {
		if len(c.b) > 1000 {
			continue
		}
		sample.Changed(c.b, ask)
		for range 500 {
			ask(chance.Change(c.b))
		}
	}
	for range 20000 {
		ask(chance.Bytes(16))
	}
	if found[true] < 2000 || found[false] < 2000 {
		t.Error("just so many codes:", found)
	}
}

// What is handed in is not changed and not kept; what is answered is new memory.

func TestCodesAreNewMemory(t *testing.T) {
	for _, c := range coded() {
		one, _ := msg.Encode(c.m)
		two, _ := msg.Encode(c.m)
		clear(one[:cap(one)])
		if string(two) != c.b {
			t.Error("two codes are one")
		}
	}
}

func TestWhatIsDecodedIsNewMemory(t *testing.T) {
	for _, m := range kinds() {
		code, _ := msg.Encode(m)
		room := sample.RoomyBytes(code)
		one, _ := msg.Decode(room)
		two, _ := msg.Decode(room)
		sample.SpoilMsg(one)
		if !sample.UntouchedBytes(room, code) {
			t.Errorf("Decode changes what it is given: %s", show(m))
		}
		clear(room[:cap(room)])
		if !alike(two, m) {
			t.Errorf("what is decoded changes with what was handed in: %s", show(m))
		}
	}
}
