package tree

import "manorboy/api"

// between are the integers from least to most.
type between struct {
	least, most int
}

// has reports whether n is one of the integers.
func (b between) has(n int) bool {
	return b.least <= n && n <= b.most
}

// many is more than the length of any list that is within the limits.
const many = api.MaxNodes

// stmtShape says what a statement of a kind has: a Text or none, and how many elements of each list.
type stmtShape struct {
	named                             bool
	targets, exps, elems, decls, body between
}

// shapeOfStmt returns the shape of the statements of a kind, if there is such a kind.
func shapeOfStmt(kind int) (shape stmtShape, known bool) {
	switch kind {
	case api.StEmpty:
		return stmtShape{}, true
	case api.StAssign:
		return stmtShape{targets: between{1, many}, exps: between{1, 1}}, true
	case api.StGoto:
		return stmtShape{exps: between{1, 1}}, true
	case api.StIf:
		return stmtShape{exps: between{1, 1}, body: between{1, 2}}, true
	case api.StFor:
		return stmtShape{targets: between{1, 1}, elems: between{1, many}, body: between{1, 1}}, true
	case api.StCall:
		return stmtShape{named: true, exps: between{0, api.MaxPars}}, true
	case api.StBlock:
		return stmtShape{decls: between{1, many}, body: between{1, many}}, true
	case api.StList:
		return stmtShape{body: between{1, many}}, true
	}
	return stmtShape{}, false
}

// declShape says what a declaration of a kind has: which types, whether it can be own, and how many elements of each list.
type declShape struct {
	mayBeOwn                   bool
	types                      between
	names, exps, formals, body between
}

// shapeOfDecl returns the shape of the declarations of a kind, if there is such a kind.
func shapeOfDecl(kind int) (shape declShape, known bool) {
	switch kind {
	case api.DeVar:
		return declShape{mayBeOwn: true, types: between{api.TyInt, api.TyBool}, names: between{1, many}}, true
	case api.DeArray:
		return declShape{mayBeOwn: true, types: between{api.TyInt, api.TyBool}, names: between{1, many}, exps: between{2, 2 * api.MaxDims}}, true
	case api.DeSwitch:
		return declShape{names: between{1, 1}, exps: between{1, many}}, true
	case api.DeProc:
		return declShape{types: between{api.TyNone, api.TyBool}, names: between{1, 1}, formals: between{0, api.MaxPars}, body: between{1, 1}}, true
	}
	return declShape{}, false
}

// specShape says which types a formal parameter of a specification has, whether it can be called by value, and the word of the specification, if there is one beside the type.
type specShape struct {
	types      between
	mayBeValue bool
	word       string
}

// shapeOfSpec returns the shape of a specification, if there is such a specification.
func shapeOfSpec(spec int) (shape specShape, known bool) {
	switch spec {
	case api.SpNone:
		return specShape{}, true
	case api.SpVar:
		return specShape{types: between{api.TyInt, api.TyBool}, mayBeValue: true}, true
	case api.SpArray:
		return specShape{types: between{api.TyNone, api.TyBool}, mayBeValue: true, word: "array"}, true
	case api.SpLabel:
		return specShape{word: "label"}, true
	case api.SpSwitch:
		return specShape{word: "switch"}, true
	case api.SpString:
		return specShape{word: "string"}, true
	case api.SpProc:
		return specShape{types: between{api.TyNone, api.TyBool}, word: "procedure"}, true
	}
	return specShape{}, false
}

// expShape says what an expression of a kind has: which N, which operators, and how many Args.
type expShape struct {
	n, ops, args between
}

// shapeOfExp returns the shape of the expressions of a kind, if there is such a kind.
func shapeOfExp(kind int) (shape expShape, known bool) {
	switch kind {
	case api.ExInt:
		return expShape{n: between{0, api.MaxInt}}, true
	case api.ExReal, api.ExTrue, api.ExFalse, api.ExString, api.ExName:
		return expShape{}, true
	case api.ExIndex:
		return expShape{args: between{1, api.MaxDims}}, true
	case api.ExCall:
		return expShape{args: between{1, api.MaxPars}}, true
	case api.ExOne:
		return expShape{ops: between{api.OpNeg, api.OpNot}, args: between{1, 1}}, true
	case api.ExTwo:
		return expShape{ops: between{api.OpAdd, api.OpEqv}, args: between{2, 2}}, true
	case api.ExIf:
		return expShape{args: between{3, 3}}, true
	}
	return expShape{}, false
}
