package msg

import (
	"tributary/api"
	"tributary/entry"
	"tributary/parts"
	"tributary/varint"
)

// What stands in a code for Ok.
const (
	markNo = 0
	markOk = 1
)

// Encode answers the code of m, which must be a message that may be.
func Encode(m api.Msg) ([]byte, api.Errno) {
	if !May(m) {
		return nil, api.ErrArg
	}
	return put(m), api.OK
}

// Decode answers the message whose code b is.
func Decode(b []byte) (api.Msg, api.Errno) {
	s := varint.From(b)
	m := read(s)
	if s.Done() != api.OK || !May(m) {
		return api.Msg{}, api.ErrCode
	}
	return m, api.OK
}

// heads answers where m has what stands in the first bytes of a code.
func heads(m *api.Msg) [3]*int {
	return [...]*int{&m.Kind, &m.From, &m.To}
}

// put answers the code of m, which may be.
func put(m api.Msg) []byte {
	var b []byte
	for _, x := range heads(&m) {
		b = append(b, byte(*x))
	}
	b = parts.PutCounts(b, m.Term)
	l, _ := fieldsOf(m.Kind)
	l.each(&m, func(x *int) { b = parts.PutCounts(b, *x) })
	if l.has(ok) {
		b = append(b, markOf(m.Ok))
	}
	if l.has(entries) {
		b = putEntries(b, m.Entries)
	}
	if l.has(snap) {
		b = append(b, varint.Text(string(m.Snap))...)
	}
	return b
}

// read answers what comes next, whether it is a message that may be or not.
func read(s *varint.Source) api.Msg {
	m := api.Msg{}
	for _, x := range heads(&m) {
		*x = s.Byte()
	}
	m.Term = s.Count(api.MaxTerm)
	l, _ := fieldsOf(m.Kind)
	l.each(&m, func(x *int) { *x = s.Count(api.MaxTerm) })
	if l.has(ok) {
		m.Ok = readOk(s)
	}
	if l.has(entries) {
		m.Entries = readEntries(s)
	}
	if l.has(snap) {
		m.Snap = []byte(s.Text(api.MaxBody))
	}
	return m
}

// markOf answers the byte that stands for an Ok.
func markOf(is bool) byte {
	if is {
		return markOk
	}
	return markNo
}

// readOk answers the Ok whose byte comes next; if there is none, s is bad.
func readOk(s *varint.Source) bool {
	mark := s.Byte()
	if mark > markOk {
		s.Spoil()
	}
	return mark == markOk
}

// putEntries answers b with the codes of entries behind it, which may be; as append does, it uses the room behind b.
func putEntries(b []byte, l []api.Entry) []byte {
	b = parts.PutCounts(b, len(l))
	for _, e := range l {
		code, _ := entry.Encode(e)
		b = append(b, code...)
	}
	return b
}

// readEntries answers the entries whose codes come next; if there are none, s is bad.
func readEntries(s *varint.Source) []api.Entry {
	var l []api.Entry
	for range s.Count(api.MaxSend) {
		l = append(l, entry.Read(s))
	}
	return l
}
