package codec

import (
	"strconv"
	"strings"

	"tributary/api"
	"tributary/value"
)

// numberSigns are all signs that a number may have, the first one too.
const numberSigns = "-0123456789"

// Parse answers the whole value whose text s is.
func Parse(s string) (api.Value, api.Errno) {
	r := &reader{rest: s, room: api.MaxSize, forms: forms()}
	v := r.value()
	if r.bad || r.rest != "" || value.Check(v) != api.OK {
		return api.Value{}, api.ErrCode
	}
	return v, api.OK
}

// form is how texts are read that begin with one of the signs.
type form struct {
	signs string
	read  func(r *reader) api.Value
}

// forms answers all forms of texts.
func forms() []form {
	return []form{
		{`"`, (*reader).text},
		{numberSigns, (*reader).number},
		{"{", (*reader).doc},
		{"[", (*reader).array},
		{"n", (*reader).null},
		{"t", (*reader).yes},
		{"f", (*reader).no},
		{"h", (*reader).bytes},
	}
}

// reader reads a text, at first without asking whether its value is whole. What it can not read makes it bad for good.
type reader struct {
	rest string
	bad  bool
	// room is how many more values may come: each has a size of 1 at least.
	room int
	// level is how many values the one that is read lies in.
	level int
	forms []form
}

// value reads the next value, and the blanks on either side.
func (r *reader) value() api.Value {
	r.level++
	r.room--
	if r.level > api.MaxDepth || r.room < 0 {
		r.spoil()
	}
	r.blanks()
	v := r.bare()
	r.blanks()
	r.level--
	return v
}

// bare reads the value that stands here by its form, without the blanks on either side.
func (r *reader) bare() api.Value {
	for _, f := range r.forms {
		if r.at(f.signs) {
			return f.read(r)
		}
	}
	r.spoil()
	return api.Value{}
}

func (r *reader) null() api.Value {
	r.take(nullWord)
	return value.Null()
}

func (r *reader) yes() api.Value {
	r.take(trueWord)
	return value.Bool(true)
}

func (r *reader) no() api.Value {
	r.take(falseWord)
	return value.Bool(false)
}

func (r *reader) number() api.Value {
	behind := strings.TrimLeft(r.rest, numberSigns)
	digits := r.rest[:len(r.rest)-len(behind)]
	r.rest = behind
	x, err := strconv.Atoi(digits)
	// Of all ways to write a number just the one in which it is printed counts: no 0 ahead, no -0.
	if err != nil || strconv.Itoa(x) != digits {
		r.spoil()
	}
	return value.Int(x)
}

func (r *reader) text() api.Value {
	return value.Text(string(r.quoted()))
}

func (r *reader) bytes() api.Value {
	r.take("h")
	return value.Bytes(r.quoted())
}

func (r *reader) array() api.Value {
	v := api.Value{Kind: api.KindArray}
	r.list("[", "]", func() { v.Items = append(v.Items, r.value()) })
	return v
}

func (r *reader) doc() api.Value {
	v := api.Value{Kind: api.KindDoc}
	r.list("{", "}", func() {
		v.Names = append(v.Names, string(r.quoted()))
		r.sign(":")
		v.Items = append(v.Items, r.value())
	})
	return v
}

// list calls item to read each item, a comma between each two, between the signs open and end.
func (r *reader) list(open, end string, item func()) {
	r.sign(open)
	for more := !r.at(end); more && !r.bad; {
		item()
		more = r.at(",")
		if more {
			r.sign(",")
		}
	}
	r.sign(end)
}

// quoted reads what stands between two quotes.
func (r *reader) quoted() []byte {
	var b []byte
	r.take(`"`)
	for !r.bad && !r.at(`"`) {
		b = append(b, r.letter())
	}
	r.take(`"`)
	return b
}

// letter reads one byte of what stands between quotes.
func (r *reader) letter() byte {
	if r.at(`\`) {
		r.take(`\x`)
		high := r.digit()
		return high<<4 | r.digit()
	}
	c := r.oneByte()
	if !plain(c) {
		r.spoil()
	}
	return c
}

// digit reads a digit to the base of 16.
func (r *reader) digit() byte {
	n := strings.IndexByte(hexDigits, r.oneByte())
	if n < 0 {
		r.spoil()
		return 0
	}
	return byte(n)
}

// sign reads a sign, and the blanks on either side.
func (r *reader) sign(s string) {
	r.blanks()
	r.take(s)
	r.blanks()
}

// blanks passes over the blanks that stand here, if any.
func (r *reader) blanks() {
	r.rest = strings.TrimLeft(r.rest, " ")
}

// at tells whether one of the signs stands here.
func (r *reader) at(signs string) bool {
	return r.rest != "" && strings.IndexByte(signs, r.rest[0]) >= 0
}

// take passes over s, which must stand here.
func (r *reader) take(s string) {
	rest, found := strings.CutPrefix(r.rest, s)
	r.rest = rest
	if !found {
		r.spoil()
	}
}

// oneByte reads the next byte; 0, if there is none.
func (r *reader) oneByte() byte {
	if r.rest == "" {
		r.spoil()
		return 0
	}
	c := r.rest[0]
	r.rest = r.rest[1:]
	return c
}

// spoil makes the reader bad.
func (r *reader) spoil() {
	r.rest, r.bad = "", true
}
