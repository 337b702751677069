package tree

import (
	"slices"

	"manorboy/api"
)

// copies returns a list of the copies of a list's elements. A nil list stays nil.
func copies[T any](list []T, copyOf func(T) T) []T {
	if list == nil {
		return nil
	}
	result := make([]T, len(list))
	for i, x := range list {
		result[i] = copyOf(x)
	}
	return result
}

func copyStmt(s api.Stmt) api.Stmt {
	s.Labels = copies(s.Labels, itself)
	s.Targets = copies(s.Targets, copyExp)
	s.Exps = copies(s.Exps, copyExp)
	s.For = copies(s.For, copyElem)
	s.Decls = copies(s.Decls, copyDecl)
	s.Body = copies(s.Body, copyStmt)
	return s
}

func copyDecl(d api.Decl) api.Decl {
	d.Names = copies(d.Names, itself)
	d.Exps = copies(d.Exps, copyExp)
	d.Formals = copies(d.Formals, itself)
	d.Body = copies(d.Body, copyStmt)
	return d
}

func copyElem(l api.Elem) api.Elem {
	l.Exps = copies(l.Exps, copyExp)
	return l
}

func copyExp(e api.Exp) api.Exp {
	e.Args = copies(e.Args, copyExp)
	return e
}

// itself returns what has no memory of its own, and so is a copy already.
func itself[T any](x T) T { return x }

func sameStmt(a, b api.Stmt) bool {
	return a.Kind == b.Kind && a.Text == b.Text && slices.Equal(a.Labels, b.Labels) &&
		slices.EqualFunc(a.Targets, b.Targets, sameExp) && slices.EqualFunc(a.Exps, b.Exps, sameExp) &&
		slices.EqualFunc(a.For, b.For, sameElem) && slices.EqualFunc(a.Decls, b.Decls, sameDecl) &&
		slices.EqualFunc(a.Body, b.Body, sameStmt)
}

func sameDecl(a, b api.Decl) bool {
	return a.Kind == b.Kind && a.Own == b.Own && a.Type == b.Type && slices.Equal(a.Names, b.Names) &&
		slices.EqualFunc(a.Exps, b.Exps, sameExp) && slices.Equal(a.Formals, b.Formals) &&
		slices.EqualFunc(a.Body, b.Body, sameStmt)
}

func sameElem(a, b api.Elem) bool {
	return a.Kind == b.Kind && slices.EqualFunc(a.Exps, b.Exps, sameExp)
}

func sameExp(a, b api.Exp) bool {
	return a.Kind == b.Kind && a.Op == b.Op && a.N == b.N && a.Real == b.Real && a.Text == b.Text &&
		slices.EqualFunc(a.Args, b.Args, sameExp)
}
