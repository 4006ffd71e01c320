package value

import (
	"tributary/api"
	"tributary/parts"
)

// Clone answers the same value, of lists of its own.
func Clone(v api.Value) api.Value {
	v.Items = parts.CopyEach(v.Items, Clone)
	v.Names = copyNames(v.Names)
	return v
}

// Null answers null.
func Null() api.Value {
	return api.Value{Kind: api.KindNull}
}

// Bool answers a bool.
func Bool(is bool) api.Value {
	if is {
		return api.Value{Kind: api.KindBool, Int: 1}
	}
	return api.Value{Kind: api.KindBool}
}

// Int answers a number.
func Int(x int) api.Value {
	return api.Value{Kind: api.KindInt, Int: x}
}

// Text answers a text.
func Text(s string) api.Value {
	return api.Value{Kind: api.KindText, Text: s}
}

// Bytes answers bytes.
func Bytes(b []byte) api.Value {
	return api.Value{Kind: api.KindBytes, Text: string(b)}
}

// Array answers an array of the values l.
func Array(l ...api.Value) api.Value {
	return api.Value{Kind: api.KindArray, Items: parts.CopyEach(l, Clone)}
}

// Doc answers a document of the values l by names.
func Doc(names []string, l ...api.Value) api.Value {
	return api.Value{Kind: api.KindDoc, Items: parts.CopyEach(l, Clone), Names: copyNames(names)}
}

// copyNames answers the same names in a list of its own.
func copyNames(l []string) []string {
	return append([]string(nil), l...)
}
