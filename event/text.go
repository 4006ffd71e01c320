package event

import (
	"slices"
	"strconv"
	"strings"

	"tributary/api"
	"tributary/codec"
	"tributary/value"
)

// Text answers the text of v.
func Text(v api.Event) (string, api.Errno) {
	word, is := wordOf(v.Kind)
	if !is {
		return "", api.ErrArg
	}
	words := []string{strconv.Itoa(v.Index) + "." + strconv.Itoa(v.Term), word, quoted(v.Coll)}
	if v.Kind == api.EntryRename {
		words = append(words, quoted(v.To))
	}
	for _, x := range told(v) {
		text, no := codec.Print(x)
		if no != api.OK {
			return "", no
		}
		words = append(words, text)
	}
	return strings.Join(words, " "), api.OK
}

// wordOf answers the word for a kind of events, and whether there is such a kind.
func wordOf(kind int) (string, bool) {
	switch kind {
	case api.EntryInsert:
		return "insert", true
	case api.EntryUpdate:
		return "update", true
	case api.EntryDelete:
		return "delete", true
	case api.EntryCreate:
		return "create", true
	case api.EntryDrop:
		return "drop", true
	case api.EntryRename:
		return "rename", true
	case api.EventInvalid:
		return "end", true
	}
	return "", false
}

// told answers the values that the text of v tells, in order.
func told(v api.Event) []api.Value {
	switch {
	case v.Kind == api.EntryInsert, v.Kind == api.EntryUpdate && v.Has == api.ImageHere:
		return []api.Value{v.Id, v.Post}
	case v.Kind == api.EntryUpdate, v.Kind == api.EntryDelete:
		return []api.Value{v.Id}
	}
	return nil
}

// mostAtOnce is how many bytes of a name are printed at once: a text of so many is whole.
const mostAtOnce = api.MaxSize / 2

// quoted answers s between quotes. It is printed piece by piece: codec refuses what is longer than any name that may be, but Text does not.
func quoted(s string) string {
	b := strings.Builder{}
	b.WriteByte('"')
	for piece := range slices.Chunk([]byte(s), mostAtOnce) {
		text, _ := codec.Print(value.Text(string(piece)))
		b.WriteString(text[1 : len(text)-1])
	}
	b.WriteByte('"')
	return b.String()
}
