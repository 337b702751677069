package scope

import (
	"cmp"
	"slices"

	"manorboy/api"
)

// The forms of occurrences.
const (
	plain   = 1 // an ExName
	indexed = 2 // an ExIndex
	called  = 3 // an ExCall
	invoked = 4 // a StCall
)

// occurrence is the identifier of a part, the form in which it occurs, and with how many subscripts or parameters.
type occurrence struct {
	name string
	form int
	args int
}

// occurrence returns the occurrence that a part is.
func (p part) occurrence() (o occurrence, found bool) {
	if p.isStmt(api.StCall) {
		return occurrence{p.stmt.Text, invoked, len(p.stmt.Exps)}, true
	}
	if p.exp == nil {
		return occurrence{}, false
	}
	switch p.exp.Kind {
	case api.ExName:
		return occurrence{p.exp.Text, plain, 0}, true
	case api.ExIndex:
		return occurrence{p.exp.Text, indexed, len(p.exp.Args)}, true
	case api.ExCall:
		return occurrence{p.exp.Text, called, len(p.exp.Args)}, true
	}
	return occurrence{}, false
}

// The classes of what identifiers denote, as far as they make a difference to what is right.
const (
	aVariable  = 1
	anArray    = 2
	aSwitch    = 3
	aProcedure = 4 // one that is no function
	aFunction  = 5
	aLabel     = 6
	aName      = 7 // a formal parameter that is called by name
)

// anyCount stands for any number of subscripts.
const anyCount = -1

// thing is what an identifier denotes: its class, how many subscripts or parameters it has, and the number of its declaration.
type thing struct {
	class int
	count int
	node  int
}

// standardProcedure is what there is to know of a standard procedure.
type standardProcedure struct {
	name   string
	class  int
	params int
}

// standard lists the standard procedures: P6.1.
var standard = [8]standardProcedure{
	{"outinteger", aProcedure, 1},
	{"outreal", aProcedure, 1},
	{"outboolean", aProcedure, 1},
	{"outstring", aProcedure, 1},
	{"inint", aFunction, 0},
	{"abs", aFunction, 1},
	{"sign", aFunction, 1},
	{"entier", aFunction, 1},
}

// thingAt returns what is declared at a place.
func (n *nest) thingAt(p api.Place) thing {
	if p.Kind == api.BiStandard {
		return thing{class: standard[p.At].class, count: standard[p.At].params, node: p.Node}
	}
	d := n.parts[p.Node].decl
	switch p.Kind {
	case api.BiVar:
		return thing{class: aVariable}
	case api.BiArray:
		return thing{class: anArray, count: len(d.Exps) / 2}
	case api.BiSwitch:
		return thing{class: aSwitch, count: 1}
	case api.BiProc:
		if d.Type == api.TyNone {
			return thing{class: aProcedure, count: len(d.Formals), node: p.Node}
		}
		return thing{class: aFunction, count: len(d.Formals), node: p.Node}
	case api.BiFormal:
		return formalThing(d.Formals[p.At])
	}
	return thing{class: aLabel}
}

func formalThing(f api.Formal) thing {
	switch {
	case !f.Value:
		return thing{class: aName}
	case f.Spec == api.SpArray:
		return thing{class: anArray, count: anyCount}
	}
	return thing{class: aVariable}
}

// rule says in which positions an occurrence of a form is right that denotes something of a class. If it is counted, there must be as many subscripts or parameters as this has; if it is within, the occurrence must be a part of the statement of the function's Body.
type rule struct {
	form      int
	class     int
	positions int
	counted   bool
	within    bool
}

// right is the chapter's table for occurrences. A StCall stands in no position, and counts as standing everywhere.
var right = [...]rule{
	{plain, aVariable, value + target + actual + choice, false, false},
	{plain, anArray, actual, false, false},
	{plain, aSwitch, actual, false, false},
	{plain, aProcedure, actual, false, false},
	{plain, aFunction, actual, false, false},
	{plain, aFunction, value + choice, true, false},
	{plain, aFunction, target, false, true},
	{plain, aLabel, goal + actual + choice, false, false},
	{plain, aName, everywhere, false, false},
	{indexed, anArray, value + target + actual + choice, true, false},
	{indexed, aSwitch, goal + actual + choice, true, false},
	{indexed, aName, everywhere, false, false},
	{called, aFunction, value + actual + choice, true, false},
	{called, aName, value + actual + choice, false, false},
	{invoked, aProcedure, everywhere, true, false},
	{invoked, aFunction, everywhere, true, false},
	{invoked, aName, everywhere, false, false},
}

// judge returns the problem of an occurrence, the part with a number, that denotes a thing; 0 if it is right.
func (n *nest) judge(number int, o occurrence, t thing) int {
	position := n.parts[number].position
	if o.form == invoked {
		position = everywhere
	}
	for _, r := range right {
		if r.form != o.form || r.class != t.class || r.positions&position == 0 {
			continue
		}
		if r.within && !n.isWithin(number, t.node) {
			return api.PrKind
		}
		if r.counted && t.count != o.args && t.count != anyCount {
			return api.PrCount
		}
		return 0
	}
	return api.PrKind
}

// isWithin reports whether a part is one of those of the declaration with a number (-1: that of a standard procedure, which has none).
func (n *nest) isWithin(number, node int) bool {
	return node >= 0 && node < number && number < n.parts[node].end
}

// positionsOf returns in which positions an expression is right that is no occurrence.
func positionsOf(kind int) int {
	switch kind {
	case api.ExIf:
		return everywhere
	case api.ExString:
		return actual
	}
	return value + actual + choice
}

// problemAt returns the problem of the part with a number, but for those of what it declares; 0 if there is none.
func (n *nest) problemAt(number int) (kind int, name string) {
	p := n.parts[number]
	if o, found := p.occurrence(); found {
		return n.problemOf(number, o), o.name
	}
	if p.exp != nil && p.position&positionsOf(p.exp.Kind) == 0 {
		return api.PrKind, ""
	}
	return 0, ""
}

// problemOf returns the problem of the occurrence that is the part with a number; 0 if there is none.
func (n *nest) problemOf(number int, o occurrence) int {
	p := n.parts[number]
	if p.bounded != nil {
		if _, declared := p.bounded.denoted[o.name]; declared {
			return api.PrBound
		}
	}
	place := p.inside.find(o.name)
	if place.Kind == 0 {
		return api.PrUnknown
	}
	return n.judge(number, o, n.thingAt(place))
}

// twice returns the problems of the identifiers that are declared more than once in a scope.
func (n *nest) twice() []api.Problem {
	var problems []api.Problem
	for _, d := range n.declarations() {
		if d.again {
			problems = append(problems, api.Problem{Kind: api.PrTwice, Node: d.place.Node, Name: d.name})
		}
	}
	return problems
}

// problems returns all problems.
func (n *nest) problems() []api.Problem {
	problems := n.twice()
	for number := range n.parts {
		if kind, name := n.problemAt(number); kind != 0 {
			problems = append(problems, api.Problem{Kind: kind, Node: number, Name: name})
		}
	}
	// Those of one part keep their order: what is declared twice comes first.
	slices.SortStableFunc(problems, func(a, b api.Problem) int { return cmp.Compare(a.Node, b.Node) })
	return problems
}
