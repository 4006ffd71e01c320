package codec

import (
	"strconv"
	"strings"

	"tributary/api"
	"tributary/value"
)

// The words of texts.
const (
	nullWord  = "null"
	trueWord  = "true"
	falseWord = "false"
)

// hexDigits are the digits to the base of 16, each at the place that it says.
const hexDigits = "0123456789abcdef"

// Print answers the text of v, which must be whole.
func Print(v api.Value) (string, api.Errno) {
	if e := value.Check(v); e != api.OK {
		return "", e
	}
	p := &printer{}
	p.value(v)
	return p.String(), api.OK
}

// plain tells whether the byte c is itself in a text.
func plain(c byte) bool {
	return c >= ' ' && c <= '~' && c != '"' && c != '\\'
}

// quoter writes bytes as a text.
type quoter struct {
	strings.Builder
}

// quote writes s, and a quote on either side.
func (q *quoter) quote(s string) {
	q.WriteByte('"')
	for i := range len(s) {
		c := s[i]
		if plain(c) {
			q.WriteByte(c)
			continue
		}
		q.WriteString(`\x`)
		q.WriteByte(hexDigits[c>>4])
		q.WriteByte(hexDigits[c&15])
	}
	q.WriteByte('"')
}

// printer writes values as texts.
type printer struct {
	quoter
}

// value writes v, which is whole.
func (p *printer) value(v api.Value) {
	switch v.Kind {
	case api.KindNull:
		p.WriteString(nullWord)
	case api.KindBool:
		p.truth(v.Int == 1)
	case api.KindInt:
		p.WriteString(strconv.Itoa(v.Int))
	case api.KindText:
		p.quote(v.Text)
	case api.KindBytes:
		p.WriteByte('h')
		p.quote(v.Text)
	case api.KindArray:
		p.list('[', ']', len(v.Items), func(i int) { p.value(v.Items[i]) })
	case api.KindDoc:
		p.list('{', '}', len(v.Items), func(i int) {
			p.quote(v.Names[i])
			p.WriteByte(':')
			p.value(v.Items[i])
		})
	}
}

// truth writes a bool.
func (p *printer) truth(is bool) {
	if is {
		p.WriteString(trueWord)
		return
	}
	p.WriteString(falseWord)
}

// list writes n items by what item does, a comma between each two, between the signs open and end.
func (p *printer) list(open, end byte, n int, item func(i int)) {
	p.WriteByte(open)
	for i := range n {
		if i > 0 {
			p.WriteByte(',')
		}
		item(i)
	}
	p.WriteByte(end)
}
