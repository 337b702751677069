package scope_test

import (
	"fmt"
	"math/rand"
	"strings"
	"testing"

	"manorboy/api"
	"manorboy/parse"
	"manorboy/tree"
)

// stmtOf returns the statement with a text.
func stmtOf(t *testing.T, text string) api.Stmt {
	t.Helper()
	s, e, at := parse.ParseStmt(text)
	if e != api.OK {
		t.Fatalf("parse.ParseStmt(%q): %d at %d", short(text), e, at)
	}
	return s
}

// textOf returns the text of a valid statement.
func textOf(t *testing.T, s api.Stmt) string {
	t.Helper()
	text, e := tree.Print(s)
	if e != api.OK {
		t.Fatal(e)
	}
	return text
}

// writer writes statements by chance. Their identifiers are few, so that most of them are declared, some of them again within or twice, and all of them in all positions.
type writer struct {
	*rand.Rand
}

func (w writer) pick(l ...string) string { return l[w.Intn(len(l))] }

// few writes from one to most texts.
func (w writer) few(most int, separator string, one func() string) string {
	var l []string
	for range 1 + w.Intn(most) {
		l = append(l, one())
	}
	return strings.Join(l, separator)
}

func (w writer) name() string {
	return w.pick("a", "b", "c", "f", "g", "l", "m", "x", "y", "abs", "inint", "outinteger")
}

func (w writer) exp(depth int) string {
	if depth <= 1 {
		return w.pick("1", "2.5", "true", "\"a b\"", w.name(), w.name(), w.name(), w.name())
	}
	inner := func() string { return w.exp(depth - 1) }
	switch w.Intn(8) {
	case 0, 1:
		return w.name() + "[" + w.few(2, ", ", inner) + "]"
	case 2, 3:
		return w.name() + "(" + w.few(2, ", ", inner) + ")"
	case 4:
		return "if (" + inner() + ") then (" + inner() + ") else " + inner()
	case 5:
		return w.pick("- ", "not ") + "(" + inner() + ")"
	case 6:
		return "(" + inner() + ")" + w.pick(" + ", " // ", " = ", " and ") + "(" + inner() + ")"
	}
	return w.exp(1)
}

func (w writer) target(depth int) string {
	if depth <= 1 || w.Intn(2) == 0 {
		return w.name()
	}
	return w.name() + "[" + w.few(2, ", ", func() string { return w.exp(depth - 1) }) + "]"
}

func (w writer) stmt(depth int) string {
	labels := ""
	for w.Intn(3) == 0 {
		labels += w.name() + ": "
	}
	return labels + w.unlabelled(depth)
}

func (w writer) unlabelled(depth int) string {
	exp := func() string { return w.exp(min(depth-1, 3)) }
	inner := func() string { return w.stmt(depth - 1) }
	if depth <= 1 {
		return w.pick("", w.name())
	}
	switch w.Intn(9) {
	case 0:
		return w.few(2, "", func() string { return w.target(min(depth-1, 3)) + " := " }) + exp()
	case 1:
		return "goto " + exp()
	case 2:
		then := w.pick("begin "+inner()+" end", w.name(), "goto "+exp(), "")
		return "if " + exp() + " then " + w.pick("", w.name()+": ") + then + w.pick("", " else "+inner())
	case 3:
		elem := func() string { return w.pick(exp(), exp()+" step "+exp()+" until "+exp(), exp()+" while "+exp()) }
		return "for " + w.target(min(depth-1, 3)) + " := " + w.few(2, ", ", elem) + " do " + inner()
	case 4:
		return w.name() + w.pick("", "("+w.few(3, ", ", exp)+")")
	case 5:
		return "begin " + w.few(3, "; ", inner) + " end"
	}
	return "begin " + w.few(3, "; ", func() string { return w.decl(depth - 1) }) + "; " + w.few(3, "; ", inner) + " end"
}

func (w writer) decl(depth int) string {
	exp := func() string { return w.exp(min(depth-1, 2)) }
	kind := w.pick("", "own ") + w.pick("integer ", "real ", "boolean ")
	switch w.Intn(6) {
	case 0, 1:
		return kind + w.few(2, ", ", w.name)
	case 2:
		return kind + "array " + w.few(2, ", ", w.name) + "[" + w.few(2, ", ", func() string { return exp() + ": " + exp() }) + "]"
	case 3:
		return "switch " + w.name() + " := " + w.few(2, ", ", exp)
	}
	return w.proc(depth)
}

// proc writes a procedure with up to three formal parameters.
func (w writer) proc(depth int) string {
	text := w.pick("", "integer ", "real ") + "procedure " + w.name()
	formals := []string{"a", "x", "f", "l", "y"}
	w.Shuffle(len(formals), func(i, k int) { formals[i], formals[k] = formals[k], formals[i] })
	formals = formals[:w.Intn(4)]
	if len(formals) > 0 {
		text += "(" + strings.Join(formals, ", ") + ")"
	}
	text += "; "
	for i, f := range formals {
		if i == 0 && w.Intn(2) == 0 {
			text += "value " + f + "; " + w.pick("integer ", "real ", "boolean array ") + f + "; "
		} else {
			text += w.pick("", w.pick("integer ", "array ", "label ", "switch ", "string ", "procedure ", "real procedure ")+f+"; ")
		}
	}
	return text + w.stmt(depth-1)
}

// stmts makes valid statements of at most so many parts, from small ones to large ones.
func stmts(t *testing.T, seed int64, count, size int) []api.Stmt {
	t.Helper()
	w := writer{rand.New(rand.NewSource(seed))}
	var l []api.Stmt
	for len(l) < count {
		text := w.stmt(2 + len(l)%6)
		s, e, at := parse.ParseStmt(text)
		if e != api.OK && e != api.ErrLimit {
			t.Fatalf("%q: %d at %d", text, e, at)
		}
		if e == api.OK && tree.Size(s) <= size {
			l = append(l, s)
		}
	}
	return l
}

// partsOf returns the paths and the parts of a valid statement, at their numbers.
func partsOf(t *testing.T, s api.Stmt) ([][]int, []api.Part) {
	t.Helper()
	paths, e := tree.Paths(s)
	if e != api.OK {
		t.Fatal(e)
	}
	var parts []api.Part
	for _, path := range paths {
		p, e := tree.At(s, path)
		if e != api.OK {
			t.Fatal(e)
		}
		parts = append(parts, p)
	}
	return paths, parts
}

// changed returns a statement whose part with a number has been changed.
func changed(t *testing.T, s api.Stmt, number int, change func(*api.Part)) api.Stmt {
	t.Helper()
	paths, parts := partsOf(t, s)
	change(&parts[number])
	s, e := tree.With(s, paths[number], parts[number])
	if e != api.OK {
		t.Fatal(e)
	}
	return s
}

// within returns a block with a declaration of variables, whose only statement is the given one, the part with the number 2.
func within(s api.Stmt, names ...string) api.Stmt {
	d := api.Decl{Kind: api.DeVar, Type: api.TyInt, Names: names}
	return api.Stmt{Kind: api.StBlock, Decls: []api.Decl{d}, Body: []api.Stmt{s}}
}

// short returns the beginning of what a message says of a value.
func short(x any) string {
	text := fmt.Sprint(x)
	return text[:min(len(text), 400)]
}
