package update

import (
	"slices"
	"strconv"

	"tributary/api"
	"tributary/path"
	"tributary/tree"
	"tributary/value"
)

// spot is what an operator finds at its path.
type spot struct {
	x     api.Value
	found bool
	// inArray tells whether x is an array's item.
	inArray bool
}

// look answers what lies at the path p of the document v.
func look(v api.Value, p []string) spot {
	x, found := tree.Get(v, p)
	// The path of a document's own item has no step ahead of it, where nothing is found.
	around, _ := tree.Get(v, p[:len(p)-1])
	return spot{x: x, found: found, inArray: around.Kind == api.KindArray}
}

// operator answers what o changes, by what it finds at its path.
type operator func(o api.Op, at spot) ([]api.Delta, api.Errno)

// operatorOf answers the operator of a kind.
func operatorOf(kind int) operator {
	switch kind {
	case api.OpUnset:
		return opUnset
	case api.OpInc:
		return opInc
	case api.OpPush:
		return opPush
	case api.OpPull:
		return opPull
	case api.OpRename:
		return opRename
	case api.OpMin:
		return givingWay(func(order int) bool { return order > 0 })
	case api.OpMax:
		return givingWay(func(order int) bool { return order < 0 })
	}
	// What is left is OpSet, to which all gives way but the same.
	return givingWay(func(order int) bool { return order != 0 })
}

// givingWay answers an operator that sets its value where nothing lies, or what gives way, by how it stands to that value in their order.
func givingWay(gives func(order int) bool) operator {
	return func(o api.Op, at spot) ([]api.Delta, api.Errno) {
		if at.found && !gives(value.Compare(at.x, o.Value)) {
			return changes()
		}
		return changes(set(o.Path, o.Value))
	}
}

func opUnset(o api.Op, at spot) ([]api.Delta, api.Errno) {
	if !at.found {
		return changes()
	}
	return changes(drop(o.Path))
}

func opInc(o api.Op, at spot) ([]api.Delta, api.Errno) {
	switch {
	case !at.found:
		return changes(set(o.Path, o.Value))
	case at.x.Kind != api.KindInt:
		return nil, api.ErrType
	}
	sum := at.x.Int + o.Value.Int
	// Beyond 64 bits a sum comes round from the other side.
	if (sum < at.x.Int) != (o.Value.Int < 0) {
		return nil, api.ErrOver
	}
	return changes(set(o.Path, value.Int(sum)))
}

func opPush(o api.Op, at spot) ([]api.Delta, api.Errno) {
	switch {
	case !at.found:
		return pushFirst(o)
	case at.x.Kind != api.KindArray:
		return nil, api.ErrType
	case len(at.x.Items) > api.MaxIndex:
		return nil, api.ErrLong
	}
	next, e := path.Join(o.Path, strconv.Itoa(len(at.x.Items)))
	if e != api.OK {
		return nil, e
	}
	return changes(set(next, o.Value))
}

// pushFirst answers what a push changes where nothing lies.
func pushFirst(o api.Op) ([]api.Delta, api.Errno) {
	alone := value.Array(o.Value)
	if e := value.Check(alone); e != api.OK {
		return nil, e
	}
	return changes(set(o.Path, alone))
}

func opPull(o api.Op, at spot) ([]api.Delta, api.Errno) {
	switch {
	case !at.found:
		return changes()
	case at.x.Kind != api.KindArray:
		return nil, api.ErrType
	}
	others := slices.DeleteFunc(slices.Clone(at.x.Items), func(y api.Value) bool { return value.Same(y, o.Value) })
	if len(others) == len(at.x.Items) {
		return changes()
	}
	return changes(set(o.Path, value.Array(others...)))
}

func opRename(o api.Op, at spot) ([]api.Delta, api.Errno) {
	switch {
	case !at.found:
		return changes()
	case at.inArray:
		return nil, api.ErrPath
	}
	return changes(drop(o.Path), set(o.To, at.x))
}

// changes answers as many changes as an operator has.
func changes(l ...api.Delta) ([]api.Delta, api.Errno) {
	return l, api.OK
}

func set(p []string, v api.Value) api.Delta {
	return api.Delta{Kind: api.DeltaSet, Path: p, Value: v}
}

func drop(p []string) api.Delta {
	return api.Delta{Kind: api.DeltaDrop, Path: p}
}
