package cluster

import (
	"tributary/api"
	"tributary/codec"
	"tributary/parts"
	"tributary/spec"
	"tributary/varint"
)

// mostSteps is how many steps of a script are read at most.
const mostSteps = 10000

// What a request's code says it has, a bit each.
const (
	markId = 1 << iota
	markDoc
	markSpec
	markEnd
)

// Put answers b with the code of a behind it, if a may be written.
func Put(b []byte, a api.Act) []byte {
	// A copy, so that the room behind b stays as it is.
	out := append([]byte(nil), b...)
	if !mayWrite(a) {
		return out
	}
	return put(out, a)
}

// Read answers the step whose code comes next; if there is none, s is bad.
func Read(s *varint.Source) api.Act {
	a := read(s)
	if s.Bad() || !mayWrite(a) {
		s.Spoil()
		return api.Act{}
	}
	return a
}

// Script answers the steps whose codes b has one behind the other.
func Script(b []byte) []api.Act {
	var l []api.Act
	s := varint.From(b)
	for len(l) < mostSteps {
		a := Read(s)
		if s.Bad() {
			break
		}
		l = append(l, a)
	}
	return l
}

// Run does the steps of a script, and answers what they showed.
func (c *Cluster) Run(b []byte) []api.Told {
	if !c.made() {
		return nil
	}
	var l []api.Told
	for _, a := range Script(b) {
		l = append(l, c.Do(a))
	}
	return l
}

// put answers b with the code of a behind it, which may be written; as append does, it uses the room behind b.
func put(b []byte, a api.Act) []byte {
	b = append(b, byte(a.Kind))
	for _, x := range numbers(&a) {
		b = putInts(b, *x)
	}
	l, _ := fieldsOf(a.Kind)
	if l.has(ofAsk) {
		b = putAsk(b, a.Ask)
	}
	if l.has(ofFilter) {
		b = putFilter(b, a.Filter)
	}
	if l.has(ofToken) {
		b = putTexts(b, string(a.Token))
	}
	if l.has(ofKeep) {
		b = putKeeps(b, a.Keep)
	}
	return b
}

// read answers what comes next, whether it is a step that may be written or not.
func read(s *varint.Source) api.Act {
	a := api.Act{Kind: s.Byte()}
	for _, x := range numbers(&a) {
		*x = s.Int()
	}
	l, _ := fieldsOf(a.Kind)
	if l.has(ofAsk) {
		a.Ask = readAsk(s)
	}
	if l.has(ofFilter) {
		a.Filter = readFilter(s)
	}
	if l.has(ofToken) {
		a.Token = []byte(s.Text(mostToken))
	}
	if l.has(ofKeep) {
		a.Keep = readKeeps(s)
	}
	return a
}

// putAsk answers b with the code of a behind it, which may be written.
func putAsk(b []byte, a api.Ask) []byte {
	b = putInts(b, a.Kind, a.Session, a.Number)
	b = append(putTexts(b, a.Coll, a.To), marksOf(a))
	// Of {} these put nothing.
	return spec.Put(codec.Put(codec.Put(b, a.Id), a.Doc), a.Spec)
}

// marksOf answers the byte that says what a has.
func marksOf(a api.Ask) byte {
	marks := byte(0)
	if !parts.None(a.Id) {
		marks |= markId
	}
	if !parts.None(a.Doc) {
		marks |= markDoc
	}
	if !noSpec(a.Spec) {
		marks |= markSpec
	}
	return marks
}

// readAsk answers the request whose code comes next; if there is none, s is bad.
func readAsk(s *varint.Source) api.Ask {
	a := api.Ask{}
	for _, x := range []*int{&a.Kind, &a.Session, &a.Number} {
		*x = s.Int()
	}
	for _, x := range []*string{&a.Coll, &a.To} {
		*x = s.Text(api.MaxName)
	}
	marks := s.Byte()
	if marks >= markEnd {
		s.Spoil()
	}
	if marks&markId != 0 {
		a.Id = codec.Read(s)
	}
	if marks&markDoc != 0 {
		a.Doc = codec.Read(s)
	}
	if marks&markSpec != 0 {
		a.Spec = spec.Read(s)
	}
	return a
}

// putFilter answers b with the code of f behind it, which may be written.
func putFilter(b []byte, f api.Filter) []byte {
	return putInts(parts.PutPath(putTexts(b, f.Coll), f.Path), f.Kinds)
}

// readFilter answers the filter whose code comes next, whether it may be or not.
func readFilter(s *varint.Source) api.Filter {
	f := api.Filter{Coll: s.Text(api.MaxName)}
	f.Path = parts.ReadPath(s)
	f.Kinds = s.Int()
	return f
}

// putKeeps answers b with the code of l behind it, which may be written.
func putKeeps(b []byte, l []api.Keep) []byte {
	b = parts.PutCounts(b, len(l))
	for _, k := range l {
		b = putInts(putTexts(b, k.Name), k.N)
	}
	return b
}

// readKeeps answers what a crash keeps, whose code comes next.
func readKeeps(s *varint.Source) []api.Keep {
	var l []api.Keep
	for range s.Count(mostKeeps) {
		k := api.Keep{Name: s.Text(api.MaxTitle)}
		k.N = s.Int()
		l = append(l, k)
	}
	return l
}

// putInts answers b with the codes of numbers behind it.
func putInts(b []byte, numbers ...int) []byte {
	for _, x := range numbers {
		b = append(b, varint.Int(x)...)
	}
	return b
}

// putTexts answers b with the codes of texts behind it.
func putTexts(b []byte, texts ...string) []byte {
	for _, s := range texts {
		b = append(b, varint.Text(s)...)
	}
	return b
}
