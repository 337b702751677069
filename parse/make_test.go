package parse_test

import (
	"fmt"
	"math/rand"
	"slices"
	"testing"

	"manorboy/api"
	"manorboy/lex"
	"manorboy/real"
	"manorboy/tree"
)

// Short ways to write trees.

func num(n int) api.Exp { return api.Exp{Kind: api.ExInt, N: n} }

func number(s string) api.Exp {
	x, e := real.Parse(s)
	if e != api.OK {
		panic("no real: " + s)
	}
	return api.Exp{Kind: api.ExReal, Real: x}
}

func quoted(s string) api.Exp { return api.Exp{Kind: api.ExString, Text: s} }

func name(s string) api.Exp { return api.Exp{Kind: api.ExName, Text: s} }

func index(s string, args ...api.Exp) api.Exp {
	return api.Exp{Kind: api.ExIndex, Text: s, Args: args}
}

func call(s string, args ...api.Exp) api.Exp {
	return api.Exp{Kind: api.ExCall, Text: s, Args: args}
}

func one(op int, a api.Exp) api.Exp {
	return api.Exp{Kind: api.ExOne, Op: op, Args: []api.Exp{a}}
}

func two(op int, a, b api.Exp) api.Exp {
	return api.Exp{Kind: api.ExTwo, Op: op, Args: []api.Exp{a, b}}
}

func choice(a, b, c api.Exp) api.Exp {
	return api.Exp{Kind: api.ExIf, Args: []api.Exp{a, b, c}}
}

func elem(kind int, exps ...api.Exp) api.Elem { return api.Elem{Kind: kind, Exps: exps} }

func empty(labels ...string) api.Stmt { return api.Stmt{Kind: api.StEmpty, Labels: labels} }

func assign(e api.Exp, targets ...api.Exp) api.Stmt {
	return api.Stmt{Kind: api.StAssign, Targets: targets, Exps: []api.Exp{e}}
}

func jump(e api.Exp) api.Stmt { return api.Stmt{Kind: api.StGoto, Exps: []api.Exp{e}} }

func when(e api.Exp, body ...api.Stmt) api.Stmt {
	return api.Stmt{Kind: api.StIf, Exps: []api.Exp{e}, Body: body}
}

func loop(target api.Exp, body api.Stmt, elems ...api.Elem) api.Stmt {
	return api.Stmt{Kind: api.StFor, Targets: []api.Exp{target}, For: elems, Body: []api.Stmt{body}}
}

func invoke(s string, args ...api.Exp) api.Stmt {
	return api.Stmt{Kind: api.StCall, Text: s, Exps: args}
}

func block(decls []api.Decl, body ...api.Stmt) api.Stmt {
	return api.Stmt{Kind: api.StBlock, Decls: decls, Body: body}
}

func list(body ...api.Stmt) api.Stmt { return api.Stmt{Kind: api.StList, Body: body} }

func labelled(s api.Stmt, labels ...string) api.Stmt {
	s.Labels = labels
	return s
}

func decls(l ...api.Decl) []api.Decl { return l }

func variables(typ int, names ...string) api.Decl {
	return api.Decl{Kind: api.DeVar, Type: typ, Names: names}
}

func arrays(typ int, names []string, bounds ...api.Exp) api.Decl {
	return api.Decl{Kind: api.DeArray, Type: typ, Names: names, Exps: bounds}
}

func own(d api.Decl) api.Decl {
	d.Own = true
	return d
}

func switches(s string, exps ...api.Exp) api.Decl {
	return api.Decl{Kind: api.DeSwitch, Names: []string{s}, Exps: exps}
}

func proc(typ int, s string, body api.Stmt, formals ...api.Formal) api.Decl {
	return api.Decl{Kind: api.DeProc, Type: typ, Names: []string{s}, Formals: formals, Body: []api.Stmt{body}}
}

func formal(s string, spec, typ int) api.Formal { return api.Formal{Name: s, Spec: spec, Type: typ} }

func byValue(f api.Formal) api.Formal {
	f.Value = true
	return f
}

// maker makes valid trees by chance, of all kinds.
type maker struct {
	*rand.Rand
}

func newMaker(seed int64) maker { return maker{rand.New(rand.NewSource(seed))} }

func pick[T any](m maker, l ...T) T { return l[m.Intn(len(l))] }

// several returns from least to most things.
func several[T any](m maker, least, most int, one func() T) []T {
	var l []T
	for range least + m.Intn(most-least+1) {
		l = append(l, one())
	}
	return l
}

func (m maker) name() string {
	return pick(m, "a", "b", "c", "x", "y1", "n", "i", "ends", "begin1", "e5", "comments", "abcdefghijklmnop", "outinteger")
}

func (m maker) leaf() api.Exp {
	switch m.Intn(8) {
	case 0:
		return num(pick(m, 0, 1, 7, 10, 1234567, api.MaxInt))
	case 1:
		return number(pick(m, "0.0", "0.1", "2.5", "30.0", "1e-45", "1e40", "123456789.0"))
	case 2:
		return api.Exp{Kind: pick(m, api.ExTrue, api.ExFalse)}
	case 3:
		return quoted(pick(m, "", "a", " ", ":=", "(", ")", "[", "end", "begin", "comment", "x; ", "else", "+", "if a then"))
	}
	return name(m.name())
}

// exp makes an expression of at most this depth.
func (m maker) exp(depth int) api.Exp {
	if depth <= 1 || m.Intn(5) == 0 {
		return m.leaf()
	}
	inner := func() api.Exp { return m.exp(depth - 1) }
	switch m.Intn(10) {
	case 0:
		return index(m.name(), several(m, 1, api.MaxDims, inner)...)
	case 1:
		return call(m.name(), several(m, 1, pick(m, 2, 2, 3, api.MaxPars), inner)...)
	case 2, 3:
		return one(pick(m, api.OpNeg, api.OpNot), inner())
	case 4:
		return choice(inner(), inner(), inner())
	}
	return two(api.OpAdd+m.Intn(api.OpEqv-api.OpAdd+1), inner(), inner())
}

func (m maker) target(depth int) api.Exp {
	if depth <= 1 || m.Intn(2) == 0 {
		return name(m.name())
	}
	return index(m.name(), several(m, 1, api.MaxDims, func() api.Exp { return m.exp(depth - 1) })...)
}

func (m maker) elem(depth int) api.Elem {
	kind := pick(m, api.FeOnce, api.FeStep, api.FeWhile)
	count := map[int]int{api.FeOnce: 1, api.FeStep: 3, api.FeWhile: 2}[kind]
	return elem(kind, several(m, count, count, func() api.Exp { return m.exp(depth - 1) })...)
}

// stmt makes a statement of at most this depth.
func (m maker) stmt(depth int) api.Stmt {
	s := m.unlabelled(depth)
	if m.Intn(4) == 0 {
		s.Labels = several(m, 1, 3, m.name)
	}
	return s
}

func isClosed(s api.Stmt) bool { return s.Kind != api.StIf && s.Kind != api.StFor }

// closed makes a statement that can be the first one in a conditional one.
func (m maker) closed(depth int) api.Stmt {
	for {
		if s := m.stmt(depth); isClosed(s) {
			return s
		}
	}
}

func (m maker) unlabelled(depth int) api.Stmt {
	inner := func() api.Stmt { return m.stmt(depth - 1) }
	exp := func() api.Exp { return m.exp(min(depth-1, 4)) }
	if depth <= 1 {
		return pick(m, empty(), empty(), invoke(m.name()))
	}
	switch m.Intn(10) {
	case 0:
		return empty()
	case 1, 2:
		return assign(exp(), several(m, 1, 3, func() api.Exp { return m.target(min(depth-1, 3)) })...)
	case 3:
		return jump(exp())
	case 4:
		return when(exp(), m.closed(depth-1))
	case 5:
		return when(exp(), m.closed(depth-1), inner())
	case 6:
		return loop(m.target(min(depth-1, 3)), inner(), several(m, 1, 3, func() api.Elem { return m.elem(min(depth-1, 4)) })...)
	case 7:
		return invoke(m.name(), several(m, 0, pick(m, 1, 2, 2, api.MaxPars), exp)...)
	}
	return m.compound(depth)
}

// compound makes a block or a compound statement without labels.
func (m maker) compound(depth int) api.Stmt {
	body := several(m, 1, 4, func() api.Stmt { return m.stmt(depth - 1) })
	if m.Intn(3) == 0 {
		return list(body...)
	}
	return block(several(m, 1, 4, func() api.Decl { return m.decl(depth - 1) }), body...)
}

// decl makes a declaration of at most this depth.
func (m maker) decl(depth int) api.Decl {
	exp := func() api.Exp { return m.exp(min(depth-1, 3)) }
	typ := 1 + m.Intn(3)
	kind := m.Intn(7)
	if depth <= 1 {
		kind = 0
	}
	switch kind {
	case 0:
		d := variables(typ, several(m, 1, 3, m.name)...)
		d.Own = m.Intn(3) == 0
		return d
	case 1, 2, 3:
		d := arrays(pick(m, typ, api.TyReal, api.TyReal), several(m, 1, 3, m.name))
		for range 1 + m.Intn(api.MaxDims) {
			d.Exps = append(d.Exps, exp(), exp())
		}
		d.Own = m.Intn(4) == 0
		return d
	case 4:
		return switches(m.name(), several(m, 1, 4, exp)...)
	}
	return proc(m.Intn(4), m.name(), m.stmt(depth-1), m.formals()...)
}

// formals makes formal parameters with different names.
func (m maker) formals() []api.Formal {
	names := []string{"p", "q", "r", "s", "t1", "u", "v", "w", "x"}
	m.Shuffle(len(names), func(i, k int) { names[i], names[k] = names[k], names[i] })
	var formals []api.Formal
	for _, s := range names[:m.Intn(1+pick(m, 1, 3, api.MaxPars))] {
		formals = append(formals, m.formal(s))
	}
	return formals
}

func (m maker) formal(s string) api.Formal {
	spec := m.Intn(7)
	switch spec {
	case api.SpVar:
		return api.Formal{Name: s, Spec: spec, Type: 1 + m.Intn(3), Value: m.Intn(2) == 0}
	case api.SpArray:
		typ := m.Intn(4)
		return api.Formal{Name: s, Spec: spec, Type: typ, Value: typ != api.TyNone && m.Intn(2) == 0}
	case api.SpProc:
		return api.Formal{Name: s, Spec: spec, Type: m.Intn(4)}
	}
	return api.Formal{Name: s, Spec: spec}
}

// stmts makes valid statements within the limits, from small ones to large ones.
func (m maker) stmts(count int) []api.Stmt {
	var l []api.Stmt
	for len(l) < count {
		if s := m.stmt(1 + len(l)%6); tree.Check(s) == api.OK {
			l = append(l, s)
		}
	}
	return l
}

// exps makes valid expressions within the limits.
func (m maker) exps(count int) []api.Exp {
	var l []api.Exp
	for len(l) < count {
		if e := m.exp(1 + len(l)%6); tree.CheckExp(e) == api.OK {
			l = append(l, e)
		}
	}
	return l
}

// programs makes valid programs of at most so many parts, of at most this depth.
func (m maker) programs(count, depth, size int) []api.Stmt {
	var l []api.Stmt
	for len(l) < count {
		s := m.compound(2 + len(l)%(depth-1))
		s.Labels = several(m, 0, 2, m.name)
		if tree.Program(s) == api.OK && tree.Size(s) <= size {
			l = append(l, s)
		}
	}
	return l
}

// tokensOf returns the tokens of a text without an error.
func tokensOf(t *testing.T, text string) []api.Token {
	t.Helper()
	l, e, at := lex.Lex(text)
	if e != api.OK {
		t.Fatalf("lex.Lex(%q): %d at %d", text, e, at)
	}
	return l
}

// textOf returns the text of a valid statement.
func textOf(t *testing.T, s api.Stmt) string {
	t.Helper()
	text, e := tree.Print(s)
	if e != api.OK {
		t.Fatal(e, short(s))
	}
	return text
}

func expText(t *testing.T, x api.Exp) string {
	t.Helper()
	text, e := tree.PrintExp(x)
	if e != api.OK {
		t.Fatal(e, short(x))
	}
	return text
}

// allTokens returns a token for each symbol of the syntax.
func allTokens() []api.Token {
	var l []api.Token
	for _, s := range lex.Signs() {
		l = append(l, api.Token{Kind: api.TkSign, Text: s})
	}
	for _, s := range lex.Words() {
		if s != "comment" {
			l = append(l, api.Token{Kind: api.TkWord, Text: s})
		}
	}
	return append(l, api.Token{Kind: api.TkName, Text: "z"}, api.Token{Kind: api.TkInt, N: 3},
		api.Token{Kind: api.TkReal, Real: api.Real{Man: 5 << 21, Exp: -22}}, api.Token{Kind: api.TkString, Text: "begin"})
}

// inserted returns tokens with others ahead of the one with an index.
func inserted(l []api.Token, i int, others ...api.Token) []api.Token {
	return slices.Concat(l[:i], others, l[i:])
}

// short returns the beginning of what a message says of a value.
func short(x any) string {
	text := fmt.Sprint(x)
	return text[:min(len(text), 300)]
}
