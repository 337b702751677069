package tree

import (
	"manorboy/api"
	"manorboy/lex"
	"manorboy/real"
)

// check returns ErrLimit, ErrArg or OK for a part: P4.1.
func check(root node) api.Errno {
	if !isWithin(root) {
		return api.ErrLimit
	}
	for _, n := range parts(root) {
		if !n.isValid() {
			return api.ErrArg
		}
	}
	return api.OK
}

// isValid reports whether a part is valid, as far as it depends on itself and on the kinds of its children.
func (n node) isValid() bool {
	switch n.kind {
	case api.PaStmt:
		return isValidStmt(*n.stmt)
	case api.PaDecl:
		return isValidDecl(*n.decl)
	case api.PaElem:
		return isValidElem(*n.elem)
	}
	return isValidExp(*n.exp)
}

func isValidStmt(s api.Stmt) bool {
	shape, known := shapeOfStmt(s.Kind)
	return known && isNameIf(shape.named, s.Text) && all(s.Labels, lex.IsName) && all(s.Targets, isVariable) &&
		shape.targets.has(len(s.Targets)) && shape.exps.has(len(s.Exps)) && shape.elems.has(len(s.For)) &&
		shape.decls.has(len(s.Decls)) && shape.body.has(len(s.Body)) &&
		(s.Kind != api.StIf || isClosed(s.Body[0]))
}

// isVariable reports whether an expression is of a kind to which values are assigned.
func isVariable(e api.Exp) bool {
	return e.Kind == api.ExName || e.Kind == api.ExIndex
}

// isClosed reports whether a statement can stand ahead of else: it does not take the else for its own.
func isClosed(s api.Stmt) bool {
	return s.Kind != api.StIf && s.Kind != api.StFor
}

func isValidDecl(d api.Decl) bool {
	shape, known := shapeOfDecl(d.Kind)
	return known && (shape.mayBeOwn || !d.Own) && shape.types.has(d.Type) && all(d.Names, lex.IsName) &&
		shape.names.has(len(d.Names)) && shape.exps.has(len(d.Exps)) && shape.formals.has(len(d.Formals)) && shape.body.has(len(d.Body)) &&
		(d.Kind != api.DeArray || len(d.Exps)%2 == 0) && all(d.Formals, isValidFormal) && areDifferent(d.Formals)
}

func isValidFormal(f api.Formal) bool {
	shape, known := shapeOfSpec(f.Spec)
	return known && lex.IsName(f.Name) && shape.types.has(f.Type) && (!f.Value || shape.mayBeValue && f.Type != api.TyNone)
}

// areDifferent reports whether no two formal parameters have the same name.
func areDifferent(formals []api.Formal) bool {
	for i, f := range formals {
		for _, other := range formals[:i] {
			if other.Name == f.Name {
				return false
			}
		}
	}
	return true
}

func isValidElem(l api.Elem) bool {
	switch l.Kind {
	case api.FeOnce:
		return len(l.Exps) == 1
	case api.FeStep:
		return len(l.Exps) == 3
	case api.FeWhile:
		return len(l.Exps) == 2
	}
	return false
}

func isValidExp(e api.Exp) bool {
	shape, known := shapeOfExp(e.Kind)
	return known && shape.n.has(e.N) && shape.ops.has(e.Op) && shape.args.has(len(e.Args)) && hasValidReal(e) && hasValidText(e)
}

func hasValidReal(e api.Exp) bool {
	if e.Kind == api.ExReal {
		return real.Valid(e.Real) && e.Real.Man >= 0
	}
	return e.Real == api.Real{}
}

func hasValidText(e api.Exp) bool {
	if e.Kind == api.ExString {
		return lex.Valid(api.Token{Kind: api.TkString, Text: e.Text})
	}
	return isNameIf(isNamed(e.Kind), e.Text)
}

// isNameIf reports whether a text is an identifier where there has to be one, and empty elsewhere.
func isNameIf(named bool, text string) bool {
	if named {
		return lex.IsName(text)
	}
	return text == ""
}

// all reports whether all elements of a list are right.
func all[T any](list []T, isRight func(T) bool) bool {
	for _, x := range list {
		if !isRight(x) {
			return false
		}
	}
	return true
}
