package scope

import "manorboy/api"

// The positions in which expressions stand. Sets of them are sums.
const (
	value  = 1
	target = 2
	goal   = 4
	actual = 8
	choice = 16

	everywhere = value + target + goal + actual + choice
)

// part is a part of a program, and where it is. Of the pointers to statements, declarations, elements and expressions it has one.
type part struct {
	stmt     *api.Stmt
	decl     *api.Decl
	elem     *api.Elem
	exp      *api.Exp
	position int    // of an expression
	end      int    // the number behind those of its own parts
	inside   *scope // the innermost scope inside of which it is
	bounded  *scope // the scope of the block whose array has the part in its bounds; nil for all other parts
}

// numbered returns the parts of a statement, each at the index that is its number.
func numbered(s *api.Stmt) []part {
	var parts []part
	var visit func(part)
	visit = func(p part) {
		number := len(parts)
		parts = append(parts, p)
		p.eachChild(visit)
		parts[number].end = len(parts)
	}
	visit(part{stmt: s})
	return parts
}

// eachChild calls visit for the children of a part, in their order.
func (p part) eachChild(visit func(part)) {
	switch {
	case p.stmt != nil:
		eachOfStmt(p.stmt, visit)
	case p.decl != nil:
		eachExp(p.decl.Exps, positionInDecl(p.decl.Kind), visit)
		eachStmt(p.decl.Body, visit)
	case p.elem != nil:
		eachExp(p.elem.Exps, value, visit)
	case p.exp.Kind == api.ExIf:
		eachExp(p.exp.Args[:1], value, visit)
		eachExp(p.exp.Args[1:], positionInChoice(p.position), visit)
	case p.exp.Kind == api.ExCall:
		eachExp(p.exp.Args, actual, visit)
	default:
		eachExp(p.exp.Args, value, visit)
	}
}

func eachOfStmt(s *api.Stmt, visit func(part)) {
	eachExp(s.Targets, target, visit)
	eachExp(s.Exps, positionInStmt(s.Kind), visit)
	for i := range s.For {
		visit(part{elem: &s.For[i]})
	}
	for i := range s.Decls {
		visit(part{decl: &s.Decls[i]})
	}
	eachStmt(s.Body, visit)
}

func eachExp(list []api.Exp, position int, visit func(part)) {
	for i := range list {
		visit(part{exp: &list[i], position: position})
	}
}

func eachStmt(list []api.Stmt, visit func(part)) {
	for i := range list {
		visit(part{stmt: &list[i]})
	}
}

// positionInStmt returns the position of the Exps of a statement.
func positionInStmt(kind int) int {
	switch kind {
	case api.StGoto:
		return goal
	case api.StCall:
		return actual
	}
	return value
}

// positionInDecl returns the position of the Exps of a declaration.
func positionInDecl(kind int) int {
	if kind == api.DeSwitch {
		return goal
	}
	return value
}

// positionInChoice returns the position of what a conditional expression with a position chooses from.
func positionInChoice(position int) int {
	if position == actual {
		return choice
	}
	return position
}

// isStmt reports whether a part is a statement of a kind.
func (p part) isStmt(kind int) bool { return p.stmt != nil && p.stmt.Kind == kind }

// isDecl reports whether a part is a declaration of a kind.
func (p part) isDecl(kind int) bool { return p.decl != nil && p.decl.Kind == kind }
