package value

import "tributary/api"

// Clone answers the same value, of lists of its own.
func Clone(v api.Value) api.Value {
	v.Items = cloneAll(v.Items)
	v.Names = copyNames(v.Names)
	return v
}

// Null answers null.
func Null() api.Value {
	return api.Value{Kind: api.KindNull}
}

// Bool answers a bool.
func Bool(is bool) api.Value {
	if is {
		return api.Value{Kind: api.KindBool, Int: 1}
	}
	return api.Value{Kind: api.KindBool}
}

// Int answers a number.
func Int(x int) api.Value {
	return api.Value{Kind: api.KindInt, Int: x}
}

// Text answers a text.
func Text(s string) api.Value {
	return api.Value{Kind: api.KindText, Text: s}
}

// Bytes answers bytes.
func Bytes(b []byte) api.Value {
	return api.Value{Kind: api.KindBytes, Text: string(b)}
}

// Array answers an array of the values l.
func Array(l ...api.Value) api.Value {
	return api.Value{Kind: api.KindArray, Items: cloneAll(l)}
}

// Doc answers a document of the values l by names.
func Doc(names []string, l ...api.Value) api.Value {
	return api.Value{Kind: api.KindDoc, Items: cloneAll(l), Names: copyNames(names)}
}

// cloneAll answers the same values, of lists of their own.
func cloneAll(l []api.Value) []api.Value {
	if len(l) == 0 {
		return nil
	}
	out := make([]api.Value, len(l))
	for i, v := range l {
		out[i] = Clone(v)
	}
	return out
}

// copyNames answers the same names in a list of its own.
func copyNames(l []string) []string {
	return append([]string(nil), l...)
}
