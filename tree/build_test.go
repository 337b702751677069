package tree_test

import (
	"fmt"
	"math/rand"

	"manorboy/api"
	"manorboy/real"
)

// Short ways to write trees.

func num(n int) api.Exp { return api.Exp{Kind: api.ExInt, N: n} }

func number(s string) api.Exp {
	x, e := real.Parse(s)
	if e != api.OK {
		panic("no real: " + s)
	}
	return api.Exp{Kind: api.ExReal, Real: x}
}

func truth(b bool) api.Exp {
	if b {
		return api.Exp{Kind: api.ExTrue}
	}
	return api.Exp{Kind: api.ExFalse}
}

func quoted(s string) api.Exp { return api.Exp{Kind: api.ExString, Text: s} }

func name(s string) api.Exp { return api.Exp{Kind: api.ExName, Text: s} }

func index(s string, args ...api.Exp) api.Exp {
	return api.Exp{Kind: api.ExIndex, Text: s, Args: args}
}

func call(s string, args ...api.Exp) api.Exp {
	return api.Exp{Kind: api.ExCall, Text: s, Args: args}
}

func one(op int, a api.Exp) api.Exp {
	return api.Exp{Kind: api.ExOne, Op: op, Args: []api.Exp{a}}
}

func two(op int, a, b api.Exp) api.Exp {
	return api.Exp{Kind: api.ExTwo, Op: op, Args: []api.Exp{a, b}}
}

func choice(a, b, c api.Exp) api.Exp {
	return api.Exp{Kind: api.ExIf, Args: []api.Exp{a, b, c}}
}

func once(a api.Exp) api.Elem { return api.Elem{Kind: api.FeOnce, Exps: []api.Exp{a}} }

func step(a, b, c api.Exp) api.Elem { return api.Elem{Kind: api.FeStep, Exps: []api.Exp{a, b, c}} }

func while(a, b api.Exp) api.Elem { return api.Elem{Kind: api.FeWhile, Exps: []api.Exp{a, b}} }

func empty(labels ...string) api.Stmt { return api.Stmt{Kind: api.StEmpty, Labels: labels} }

func assign(e api.Exp, targets ...api.Exp) api.Stmt {
	return api.Stmt{Kind: api.StAssign, Targets: targets, Exps: []api.Exp{e}}
}

func jump(e api.Exp) api.Stmt { return api.Stmt{Kind: api.StGoto, Exps: []api.Exp{e}} }

func when(e api.Exp, body ...api.Stmt) api.Stmt {
	return api.Stmt{Kind: api.StIf, Exps: []api.Exp{e}, Body: body}
}

func loop(target api.Exp, body api.Stmt, elems ...api.Elem) api.Stmt {
	return api.Stmt{Kind: api.StFor, Targets: []api.Exp{target}, For: elems, Body: []api.Stmt{body}}
}

func invoke(s string, args ...api.Exp) api.Stmt {
	return api.Stmt{Kind: api.StCall, Text: s, Exps: args}
}

func block(decls []api.Decl, body ...api.Stmt) api.Stmt {
	return api.Stmt{Kind: api.StBlock, Decls: decls, Body: body}
}

func list(body ...api.Stmt) api.Stmt { return api.Stmt{Kind: api.StList, Body: body} }

func labelled(s api.Stmt, labels ...string) api.Stmt {
	s.Labels = labels
	return s
}

func decls(l ...api.Decl) []api.Decl { return l }

func variables(typ int, names ...string) api.Decl {
	return api.Decl{Kind: api.DeVar, Type: typ, Names: names}
}

func arrays(typ int, names []string, bounds ...api.Exp) api.Decl {
	return api.Decl{Kind: api.DeArray, Type: typ, Names: names, Exps: bounds}
}

func own(d api.Decl) api.Decl {
	d.Own = true
	return d
}

func switches(s string, exps ...api.Exp) api.Decl {
	return api.Decl{Kind: api.DeSwitch, Names: []string{s}, Exps: exps}
}

func proc(typ int, s string, body api.Stmt, formals ...api.Formal) api.Decl {
	return api.Decl{Kind: api.DeProc, Type: typ, Names: []string{s}, Formals: formals, Body: []api.Stmt{body}}
}

func formal(s string, spec, typ int) api.Formal { return api.Formal{Name: s, Spec: spec, Type: typ} }

func byValue(f api.Formal) api.Formal {
	f.Value = true
	return f
}

func stmtPart(s api.Stmt) api.Part { return api.Part{Kind: api.PaStmt, Stmt: s} }

func declPart(d api.Decl) api.Part { return api.Part{Kind: api.PaDecl, Decl: d} }

func elemPart(l api.Elem) api.Part { return api.Part{Kind: api.PaElem, Elem: l} }

func expPart(e api.Exp) api.Part { return api.Part{Kind: api.PaExp, Exp: e} }

// maker makes valid parts by chance, of all kinds.
type maker struct {
	*rand.Rand
}

func newMaker(seed int64) maker { return maker{rand.New(rand.NewSource(seed))} }

func pick[T any](m maker, l ...T) T { return l[m.Intn(len(l))] }

// several returns from least to most things.
func several[T any](m maker, least, most int, one func() T) []T {
	var l []T
	for range least + m.Intn(most-least+1) {
		l = append(l, one())
	}
	return l
}

func (m maker) name() string {
	return pick(m, "a", "b", "c", "x", "y1", "n", "i", "begins", "end1", "e", "comments", "abcdefghijklmnop", "z123456789012345", "outinteger")
}

// several different names.
func (m maker) names(least, most int) []string {
	l := []string{"p", "q", "r", "s", "t1", "u", "v", "w", "abcdefghijklmnop"}
	m.Shuffle(len(l), func(i, k int) { l[i], l[k] = l[k], l[i] })
	return l[:least+m.Intn(most-least+1)]
}

func (m maker) leaf() api.Exp {
	switch m.Intn(7) {
	case 0:
		return num(pick(m, 0, 1, 7, 10, 1234567, api.MaxInt))
	case 1:
		return number(pick(m, "0.0", "0.1", "2.5", "30.0", "1e-45", "1e40", "0.33333334", "123456789.0"))
	case 2:
		return truth(m.Intn(2) == 0)
	case 3:
		return quoted(pick(m, "", "a", " ", "x := 1;", "(", ")", ",;:[]", "end", "comment", "it's ~", "if a then", "abcdefghijklmnopqrst uvwxyz 0123456789 ABCDEFGHIJKLMNOPQRSTUVWXYZ !#$%&'()*+,-./:;"[:80]))
	}
	return name(m.name())
}

// exp makes an expression of at most this depth.
func (m maker) exp(depth int) api.Exp {
	if depth <= 1 || m.Intn(5) == 0 {
		return m.leaf()
	}
	inner := func() api.Exp { return m.exp(depth - 1) }
	switch m.Intn(10) {
	case 0:
		return index(m.name(), several(m, 1, api.MaxDims, inner)...)
	case 1:
		return call(m.name(), several(m, 1, pick(m, 2, 2, 3, api.MaxPars), inner)...)
	case 2, 3:
		return one(pick(m, api.OpNeg, api.OpNot), inner())
	case 4:
		return choice(inner(), inner(), inner())
	}
	return two(api.OpAdd+m.Intn(api.OpEqv-api.OpAdd+1), inner(), inner())
}

func (m maker) target(depth int) api.Exp {
	if depth <= 1 || m.Intn(2) == 0 {
		return name(m.name())
	}
	return index(m.name(), several(m, 1, 2, func() api.Exp { return m.exp(depth - 1) })...)
}

func (m maker) elem(depth int) api.Elem {
	switch m.Intn(3) {
	case 0:
		return once(m.exp(depth - 1))
	case 1:
		return while(m.exp(depth-1), m.exp(depth-1))
	}
	return step(m.exp(depth-1), m.exp(depth-1), m.exp(depth-1))
}

// stmt makes a statement of at most this depth.
func (m maker) stmt(depth int) api.Stmt {
	s := m.unlabelled(depth)
	if m.Intn(4) == 0 {
		s.Labels = several(m, 1, 3, m.name)
	}
	return s
}

// closed makes a statement that can be the first one in a conditional one.
func (m maker) closed(depth int) api.Stmt {
	for {
		if s := m.stmt(depth); s.Kind != api.StIf && s.Kind != api.StFor {
			return s
		}
	}
}

func (m maker) unlabelled(depth int) api.Stmt {
	inner := func() api.Stmt { return m.stmt(depth - 1) }
	exp := func() api.Exp { return m.exp(min(depth-1, 4)) }
	if depth <= 1 {
		return pick(m, empty(), empty(), invoke(m.name()))
	}
	switch m.Intn(10) {
	case 0:
		return empty()
	case 1:
		return assign(exp(), several(m, 1, 3, func() api.Exp { return m.target(depth - 1) })...)
	case 2:
		return jump(exp())
	case 3:
		return when(exp(), m.closed(depth-1))
	case 4:
		return when(exp(), m.closed(depth-1), inner())
	case 5:
		return loop(m.target(depth-1), inner(), several(m, 1, 3, func() api.Elem { return m.elem(min(depth-1, 4)) })...)
	case 6:
		return invoke(m.name(), several(m, 0, pick(m, 1, 2, 2, api.MaxPars), exp)...)
	case 7, 8:
		return block(several(m, 1, 3, func() api.Decl { return m.decl(depth - 1) }), several(m, 1, 3, inner)...)
	}
	return list(several(m, 1, 4, inner)...)
}

// decl makes a declaration of at most this depth.
func (m maker) decl(depth int) api.Decl {
	exp := func() api.Exp { return m.exp(min(depth-1, 4)) }
	typ := 1 + m.Intn(3)
	kind := m.Intn(5)
	if depth <= 1 {
		kind = 0
	}
	switch kind {
	case 0:
		d := variables(typ, several(m, 1, 3, m.name)...)
		d.Own = m.Intn(3) == 0
		return d
	case 1:
		d := arrays(typ, several(m, 1, 3, m.name))
		for range 1 + m.Intn(api.MaxDims) {
			d.Exps = append(d.Exps, exp(), exp())
		}
		d.Own = m.Intn(3) == 0
		return d
	case 2:
		return switches(m.name(), several(m, 1, 4, exp)...)
	}
	var formals []api.Formal
	for _, s := range m.names(0, pick(m, 1, 3, api.MaxPars)) {
		formals = append(formals, m.formal(s))
	}
	return proc(m.Intn(4), m.name(), m.stmt(depth-1), formals...)
}

func (m maker) formal(s string) api.Formal {
	spec := m.Intn(7)
	switch spec {
	case api.SpVar:
		return api.Formal{Name: s, Spec: spec, Type: 1 + m.Intn(3), Value: m.Intn(2) == 0}
	case api.SpArray:
		typ := m.Intn(4)
		return api.Formal{Name: s, Spec: spec, Type: typ, Value: typ != api.TyNone && m.Intn(2) == 0}
	case api.SpProc:
		return api.Formal{Name: s, Spec: spec, Type: m.Intn(4)}
	}
	return api.Formal{Name: s, Spec: spec}
}

// stmts makes valid statements within the limits, from small ones to large ones.
func (m maker) stmts(count int) []api.Stmt {
	var l []api.Stmt
	for len(l) < count {
		if s := m.stmt(1 + len(l)%7); sizeOf(stmtPart(s)) <= api.MaxNodes {
			l = append(l, s)
		}
	}
	return l
}

// exps makes valid expressions within the limits.
func (m maker) exps(count int) []api.Exp {
	var l []api.Exp
	for len(l) < count {
		if e := m.exp(1 + len(l)%6); sizeOf(expPart(e)) <= api.MaxNodes {
			l = append(l, e)
		}
	}
	return l
}

// decls makes valid declarations within the limits.
func (m maker) decls(count int) []api.Decl {
	var l []api.Decl
	for len(l) < count {
		if d := m.decl(1 + len(l)%6); sizeOf(declPart(d)) <= api.MaxNodes {
			l = append(l, d)
		}
	}
	return l
}

// part makes a valid part of a kind.
func (m maker) part(kind, depth int) api.Part {
	switch kind {
	case api.PaStmt:
		return stmtPart(m.stmt(depth))
	case api.PaDecl:
		return declPart(m.decl(depth))
	case api.PaElem:
		return elemPart(m.elem(max(2, depth)))
	}
	return expPart(m.exp(depth))
}

// short returns the beginning of what a message says of a part.
func short(x any) string {
	text := fmt.Sprint(x)
	return text[:min(len(text), 300)]
}
