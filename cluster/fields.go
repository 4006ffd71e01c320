package cluster

import (
	"slices"

	"tributary/api"
	"tributary/parts"
	"tributary/spec"
	"tributary/value"
)

// How much of a field may be written at most, where no limit of api says it.
const (
	mostToken = 64
	mostKeeps = 16
)

// fields are some of the fields that a step looks at by its kind.
type fields int

// The fields, a bit each; numbers begin them, in the order in which a code has them.
const (
	ofNode fields = 1 << iota
	ofN
	ofM
	ofCursor
	ofAsk
	ofFilter
	ofToken
	ofKeep
)

// fieldsOf answers which fields a step of that kind looks at, and whether there is such a kind.
func fieldsOf(kind int) (fields, bool) {
	switch kind {
	case api.ActArrive, api.ActCopy, api.ActLose:
		return ofN, true
	case api.ActTick, api.ActCompact, api.ActBoot, api.ActCut:
		return ofNode, true
	case api.ActStop:
		return ofNode | ofN | ofM, true
	case api.ActCrash:
		return ofNode | ofKeep, true
	case api.ActAsk, api.ActFind:
		return ofNode | ofAsk, true
	case api.ActOpen:
		return ofNode | ofN | ofCursor | ofFilter, true
	case api.ActPoll:
		return ofNode | ofN | ofCursor, true
	case api.ActAfter:
		return ofNode | ofM | ofCursor | ofFilter | ofToken, true
	}
	return 0, false
}

// has tells whether f is one of l.
func (l fields) has(f fields) bool {
	return l&f != 0
}

// numbers answers where a has the fields that are numbers, in the order of their bits.
func numbers(a *api.Act) [4]*int {
	return [...]*int{&a.Node, &a.N, &a.M, &a.Cursor}
}

// mayWrite tells whether a may be written.
func mayWrite(a api.Act) bool {
	l, known := fieldsOf(a.Kind)
	return known && l.bare(a) && fits(a)
}

// bare tells whether the fields of a that are none of l are 0 and empty.
func (l fields) bare(a api.Act) bool {
	for i, x := range numbers(&a) {
		if *x != 0 && !l.has(ofNode<<i) {
			return false
		}
	}
	return (l.has(ofAsk) || noAsk(a.Ask)) &&
		(l.has(ofFilter) || noFilter(a.Filter)) &&
		(l.has(ofToken) || len(a.Token) == 0) &&
		(l.has(ofKeep) || len(a.Keep) == 0)
}

// noAsk tells whether a is {}.
func noAsk(a api.Ask) bool {
	return a.Kind == 0 && a.Coll == "" && a.To == "" && parts.None(a.Id) && parts.None(a.Doc) && noSpec(a.Spec) && a.Session == 0 && a.Number == 0
}

// noSpec tells whether s is {}.
func noSpec(s api.Spec) bool {
	return !s.Replace && parts.None(s.Doc) && len(s.Ops) == 0
}

// noFilter tells whether f is {}.
func noFilter(f api.Filter) bool {
	return f.Coll == "" && len(f.Path) == 0 && f.Kinds == 0
}

// fits tells whether no field of a is more than may be written; {} and empty ones are not.
func fits(a api.Act) bool {
	return fitsAsk(a.Ask) && fitsFilter(a.Filter) && len(a.Token) <= mostToken && fitsKeeps(a.Keep)
}

// fitsAsk tells whether a may be written.
func fitsAsk(a api.Ask) bool {
	return len(a.Coll) <= api.MaxName && len(a.To) <= api.MaxName &&
		fitsValue(a.Id) && fitsValue(a.Doc) &&
		(noSpec(a.Spec) || spec.Check(a.Spec) == api.OK)
}

// fitsValue tells whether v may be written.
func fitsValue(v api.Value) bool {
	return parts.None(v) || value.Check(v) == api.OK
}

// fitsFilter tells whether f may be written.
func fitsFilter(f api.Filter) bool {
	return len(f.Coll) <= api.MaxName && len(f.Path) <= api.MaxSteps &&
		!slices.ContainsFunc(f.Path, func(step string) bool { return len(step) > api.MaxName })
}

// fitsKeeps tells whether l may be written.
func fitsKeeps(l []api.Keep) bool {
	return len(l) <= mostKeeps &&
		!slices.ContainsFunc(l, func(k api.Keep) bool { return len(k.Name) > api.MaxTitle })
}
