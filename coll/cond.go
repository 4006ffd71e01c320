package coll

import (
	"slices"

	"tributary/api"
	"tributary/parts"
	"tributary/path"
	"tributary/tree"
	"tributary/value"
)

// May tells whether c may be.
func May(c api.Cond) bool {
	left := api.MaxConds
	return may(c, api.MaxCondDepth, &left)
}

// Holds tells whether c, which may be or is {}, holds of the document v.
func Holds(v api.Value, c api.Cond) bool {
	return v.Kind == api.KindDoc && value.May(v) && mayAsk(c) && holds(v, c)
}

// may tells whether c may be, if it may be so deep, and so many conditions are left to it.
func may(c api.Cond, depth int, left *int) bool {
	*left--
	if depth == 0 || *left < 0 || !formed(c) {
		return false
	}
	return !slices.ContainsFunc(c.Of, func(x api.Cond) bool { return !may(x, depth-1, left) })
}

// formed tells whether c's own fields may be, whatever the conditions of which it is are.
func formed(c api.Cond) bool {
	switch c.Kind {
	case api.CondIs:
		if !isKind(c.Value) {
			return false
		}
		fallthrough
	case api.CondEq, api.CondLess, api.CondMore:
		return path.May(c.Path) && value.Check(c.Value) == api.OK && len(c.Of) == 0
	case api.CondHas:
		return path.May(c.Path) && parts.None(c.Value) && len(c.Of) == 0
	case api.CondNot:
		if len(c.Of) != 1 {
			return false
		}
		fallthrough
	case api.CondAnd, api.CondOr:
		return len(c.Path) == 0 && parts.None(c.Value) && len(c.Of) > 0
	}
	return false
}

// isKind tells whether v is the number of a kind of values, as far as it may be.
func isKind(v api.Value) bool {
	return v.Kind == api.KindInt && v.Int >= api.KindNull && v.Int <= api.KindDoc
}

// mayAsk tells whether c may be, or is {}.
func mayAsk(c api.Cond) bool {
	return empty(c) || May(c)
}

// empty tells whether c is {}.
func empty(c api.Cond) bool {
	return c.Kind == 0 && len(c.Path) == 0 && parts.None(c.Value) && len(c.Of) == 0
}

// holds tells whether c, which may be or is {}, holds of the document v, which may be.
func holds(v api.Value, c api.Cond) bool {
	switch c.Kind {
	case api.CondAnd:
		return !slices.ContainsFunc(c.Of, func(x api.Cond) bool { return !holds(v, x) })
	case api.CondOr:
		return slices.ContainsFunc(c.Of, func(x api.Cond) bool { return holds(v, x) })
	case api.CondNot:
		return !holds(v, c.Of[0])
	case api.CondEq, api.CondLess, api.CondMore, api.CondIs, api.CondHas:
		x, there := tree.Get(v, c.Path)
		return there && meets(x, c)
	}
	return true
}

// meets tells whether x, which lies at the path of c, is as c asks.
func meets(x api.Value, c api.Cond) bool {
	switch c.Kind {
	case api.CondEq:
		return value.Same(x, c.Value)
	case api.CondLess:
		return x.Kind == c.Value.Kind && value.Compare(x, c.Value) < 0
	case api.CondMore:
		return x.Kind == c.Value.Kind && value.Compare(x, c.Value) > 0
	case api.CondIs:
		return x.Kind == c.Value.Int
	}
	return true
}
