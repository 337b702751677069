package tree

import (
	"iter"
	"slices"

	"manorboy/api"
)

// node is a part where it lies in a tree: its kind, and of the pointers the one that belongs to this kind.
type node struct {
	kind int
	stmt *api.Stmt
	decl *api.Decl
	elem *api.Elem
	exp  *api.Exp
}

func stmtNode(s *api.Stmt) node { return node{kind: api.PaStmt, stmt: s} }

func declNode(d *api.Decl) node { return node{kind: api.PaDecl, decl: d} }

func elemNode(l *api.Elem) node { return node{kind: api.PaElem, elem: l} }

func expNode(e *api.Exp) node { return node{kind: api.PaExp, exp: e} }

// children yields the children of a part with their indices.
func (n node) children() iter.Seq2[int, node] {
	return func(yield func(int, node) bool) {
		next := 0
		n.eachChild(func(child node) bool {
			index := next
			next++
			return yield(index, child)
		})
	}
}

// eachChild yields the children of a part in their order, and reports whether more would be wanted.
func (n node) eachChild(yield func(node) bool) bool {
	switch n.kind {
	case api.PaStmt:
		s := n.stmt
		return each(s.Targets, expNode, yield) && each(s.Exps, expNode, yield) && each(s.For, elemNode, yield) &&
			each(s.Decls, declNode, yield) && each(s.Body, stmtNode, yield)
	case api.PaDecl:
		return each(n.decl.Exps, expNode, yield) && each(n.decl.Body, stmtNode, yield)
	case api.PaElem:
		return each(n.elem.Exps, expNode, yield)
	}
	return each(n.exp.Args, expNode, yield)
}

// each yields the nodes of the elements of a list, and reports whether more would be wanted.
func each[T any](list []T, nodeOf func(*T) node, yield func(node) bool) bool {
	for i := range list {
		if !yield(nodeOf(&list[i])) {
			return false
		}
	}
	return true
}

// parts yields the parts of a tree with their paths, in the order of their numbers. The next path may be written over a path: whoever keeps one copies it.
func parts(root node) iter.Seq2[[]int, node] {
	return func(yield func([]int, node) bool) {
		visit(root, nil, yield)
	}
}

// visit yields a part and all that it contains, and reports whether more would be wanted.
func visit(n node, path []int, yield func([]int, node) bool) bool {
	if !yield(path, n) {
		return false
	}
	for index, child := range n.children() {
		if !visit(child, append(path, index), yield) {
			return false
		}
	}
	return true
}

// find returns the part to which a path leads.
func find(n node, path []int) (place node, found bool) {
	for _, index := range path {
		n, found = n.child(index)
		if !found {
			return node{}, false
		}
	}
	return n, true
}

// child returns the child with an index.
func (n node) child(index int) (child node, found bool) {
	for i, child := range n.children() {
		if i == index {
			return child, true
		}
	}
	return node{}, false
}

// part returns a copy of a part.
func (n node) part() api.Part {
	p := api.Part{Kind: n.kind}
	switch n.kind {
	case api.PaStmt:
		p.Stmt = copyStmt(*n.stmt)
	case api.PaDecl:
		p.Decl = copyDecl(*n.decl)
	case api.PaElem:
		p.Elem = copyElem(*n.elem)
	case api.PaExp:
		p.Exp = copyExp(*n.exp)
	}
	return p
}

// put puts another part of the same kind in the place of a part. The lists stay those of p.
func (n node) put(p api.Part) {
	switch n.kind {
	case api.PaStmt:
		*n.stmt = p.Stmt
	case api.PaDecl:
		*n.decl = p.Decl
	case api.PaElem:
		*n.elem = p.Elem
	case api.PaExp:
		*n.exp = p.Exp
	}
}

// isPure reports whether the fields of a part that do not belong to its kind are zero.
func isPure(p api.Part) bool {
	// Nothing is looked at but the lengths of lists: a list equals an empty one just if it is empty.
	return (p.Kind == api.PaStmt || sameStmt(p.Stmt, api.Stmt{})) &&
		(p.Kind == api.PaDecl || sameDecl(p.Decl, api.Decl{})) &&
		(p.Kind == api.PaElem || sameElem(p.Elem, api.Elem{})) &&
		(p.Kind == api.PaExp || sameExp(p.Exp, api.Exp{}))
}

// namesIn returns the identifiers that occur in a valid part, in ascending order, each once.
func namesIn(root node) []string {
	var names []string
	for _, n := range parts(root) {
		names = append(names, n.names()...)
	}
	slices.Sort(names)
	return slices.Compact(names)
}

// names returns the identifiers of a valid part itself.
func (n node) names() []string {
	var names []string
	switch n.kind {
	case api.PaStmt:
		names = append(names, n.stmt.Labels...)
		if n.stmt.Kind == api.StCall {
			names = append(names, n.stmt.Text)
		}
	case api.PaDecl:
		names = append(names, n.decl.Names...)
		for _, f := range n.decl.Formals {
			names = append(names, f.Name)
		}
	case api.PaExp:
		if isNamed(n.exp.Kind) {
			names = append(names, n.exp.Text)
		}
	}
	return names
}

// isNamed reports whether the Text of an expression of a kind is an identifier.
func isNamed(kind int) bool {
	return kind == api.ExName || kind == api.ExIndex || kind == api.ExCall
}
