package tree_test

import (
	"slices"
	"strings"
	"testing"

	"manorboy/api"
	"manorboy/lex"
	"manorboy/tree"
)

// printed returns the text of a part that is no element.
func printed(p api.Part) (string, api.Errno) {
	switch p.Kind {
	case api.PaStmt:
		return tree.Print(p.Stmt)
	case api.PaDecl:
		return tree.PrintDecl(p.Decl)
	}
	return tree.PrintExp(p.Exp)
}

func wantText(t *testing.T, p api.Part, want string) {
	t.Helper()
	if text, e := printed(p); e != api.OK || text != want {
		t.Errorf("the text of %s = %q, %d; want %q", short(content(p)), text, e, want)
	}
}

// P4.9: the examples of the chapter.
func TestTextsOfTheExamples(t *testing.T) {
	a, b := name("a"), name("b")
	p, q, r := name("p"), name("q"), name("r")
	for want, part := range map[string]api.Part{
		"(- a) * b":                         expPart(two(api.OpMul, one(api.OpNeg, a), b)),
		"- a * b":                           expPart(one(api.OpNeg, two(api.OpMul, a, b))),
		"a - (b - c)":                       expPart(two(api.OpSub, a, two(api.OpSub, b, name("c")))),
		"a ^ 2 ^ (- 1)":                     expPart(two(api.OpPow, two(api.OpPow, a, num(2)), one(api.OpNeg, num(1)))),
		"not a < f(1, x[i])":                expPart(one(api.OpNot, two(api.OpLt, a, call("f", num(1), index("x", name("i")))))),
		"if b then else p":                  stmtPart(when(b, empty(), invoke("p"))),
		"l: m: begin n:; goto s[2] end":     stmtPart(labelled(list(empty("n"), jump(index("s", num(2)))), "l", "m")),
		"own real array a, b[1: n, - 1: 0]": declPart(own(arrays(api.TyReal, []string{"a", "b"}, num(1), name("n"), one(api.OpNeg, num(1)), num(0)))),
		"if (if p then q else r) then 1 else if q then 2.5 else 3":   expPart(choice(choice(p, q, r), num(1), choice(q, number("2.5"), num(3)))),
		"integer procedure f(x, y, z); value x; integer x; label y;": declPart(proc(api.TyInt, "f", empty(), byValue(formal("x", api.SpVar, api.TyInt)), formal("y", api.SpLabel, 0), formal("z", 0, 0))),
	} {
		wantText(t, part, want)
	}
}

// P4.9: expressions that are no operations.
func TestTextsOfPrimaries(t *testing.T) {
	a := name("a")
	for want, e := range map[string]api.Exp{
		"0":                     num(0),
		"2147483647":            num(api.MaxInt),
		"0.0":                   number("0"),
		"0.1":                   number("0.1"),
		"30.0":                  number("30"),
		"1.0e20":                number("1e20"),
		"true":                  truth(true),
		"false":                 truth(false),
		"\"\"":                  quoted(""),
		"\" a  ;,( \"":          quoted(" a  ;,( "),
		"abcdefghijklmnop":      name("abcdefghijklmnop"),
		"a[0]":                  index("a", num(0)),
		"a[0, a, a[1], a]":      index("a", num(0), a, index("a", num(1)), name("a")),
		"f(\"x\")":              call("f", quoted("x")),
		"f(if a then a else a)": call("f", choice(a, a, a)),
		"f(- 1, a, 1 + 1, not a, f(a), a eqv a, 2.5, true)": call("f", one(api.OpNeg, num(1)), a, two(api.OpAdd, num(1), num(1)), one(api.OpNot, a), call("f", a), two(api.OpEqv, a, a), number("2.5"), truth(true)),
		"a[- 1]":                    index("a", one(api.OpNeg, num(1))),
		"a[(- 1) ^ a, (a = a) = a]": index("a", two(api.OpPow, one(api.OpNeg, num(1)), a), two(api.OpEq, two(api.OpEq, a, a), a)),
		"f((a + a) * a)":            call("f", two(api.OpMul, two(api.OpAdd, a, a), a)),
		"((a + a) * a) ^ a":         two(api.OpPow, two(api.OpMul, two(api.OpAdd, a, a), a), a),
		"- (f(a) + a)":              one(api.OpNeg, two(api.OpAdd, call("f", a), a)),
	} {
		wantText(t, expPart(e), want)
	}
}

// P4.9: the sign of each operator.
func TestSignsOfOperators(t *testing.T) {
	for op := api.OpAdd; op <= api.OpEqv; op++ {
		sign := strings.Fields("+ - * / // ^ < <= = /= >= > and or imp eqv")[op-api.OpAdd]
		wantText(t, expPart(two(op, name("a"), num(1))), "a "+sign+" 1")
	}
	wantText(t, expPart(one(api.OpNeg, name("a"))), "- a")
	wantText(t, expPart(one(api.OpNot, name("a"))), "not a")
}

// P4.9: parentheses are written in the places whose level is not reached, and nowhere else: each operation and each conditional expression in each place.
func TestLevels(t *testing.T) {
	a := name("a")
	var inner []api.Exp
	for op := api.OpAdd; op <= api.OpEqv; op++ {
		inner = append(inner, two(op, a, a))
	}
	inner = append(inner, one(api.OpNeg, a), one(api.OpNot, a), choice(a, a, a), a, num(1), index("a", a), call("a", a), quoted("a"))
	for _, e := range inner {
		for op := api.OpAdd; op <= api.OpEqv; op++ {
			wantText(t, expPart(two(op, e, a)), laidOut(expTokens(two(op, e, a))))
			wantText(t, expPart(two(op, a, e)), laidOut(expTokens(two(op, a, e))))
		}
		for _, outer := range []api.Exp{one(api.OpNeg, e), one(api.OpNot, e), choice(e, a, a), choice(a, e, a), choice(a, a, e), index("a", e), call("a", a, e)} {
			wantText(t, expPart(outer), laidOut(expTokens(outer)))
		}
	}
	for want, e := range map[string]api.Exp{
		"- (- a)":                    one(api.OpNeg, one(api.OpNeg, a)),
		"not (not a)":                one(api.OpNot, one(api.OpNot, a)),
		"- a + a":                    two(api.OpAdd, one(api.OpNeg, a), a),
		"a + (- a)":                  two(api.OpAdd, a, one(api.OpNeg, a)),
		"- a < - a":                  two(api.OpLt, one(api.OpNeg, a), one(api.OpNeg, a)),
		"(a < a) < a":                two(api.OpLt, two(api.OpLt, a, a), a),
		"a = (a = a)":                two(api.OpEq, a, two(api.OpEq, a, a)),
		"not a and not a":            two(api.OpAnd, one(api.OpNot, a), one(api.OpNot, a)),
		"not (a and a)":              one(api.OpNot, two(api.OpAnd, a, a)),
		"(not a) = a":                two(api.OpEq, one(api.OpNot, a), a),
		"a imp (a imp a)":            two(api.OpImp, a, two(api.OpImp, a, a)),
		"a imp a imp a":              two(api.OpImp, two(api.OpImp, a, a), a),
		"(a eqv a) or a":             two(api.OpOr, two(api.OpEqv, a, a), a),
		"(if a then a else a) + a":   two(api.OpAdd, choice(a, a, a), a),
		"a eqv (if a then a else a)": two(api.OpEqv, a, choice(a, a, a)),
		"if a eqv a then a else a":   choice(two(api.OpEqv, a, a), a, a),
		"a * (a // a) / a":           two(api.OpDiv, two(api.OpMul, a, two(api.OpQuo, a, a)), a),
		"- a ^ a":                    one(api.OpNeg, two(api.OpPow, a, a)),
		"a ^ (a ^ a)":                two(api.OpPow, a, two(api.OpPow, a, a)),
	} {
		wantText(t, expPart(e), want)
	}
}

// P4.9: statements and declarations of each kind.
func TestTextsOfEachKind(t *testing.T) {
	a, x := name("a"), name("x")
	for want, p := range map[string]api.Part{
		"":                                     stmtPart(empty()),
		"l: k:":                                stmtPart(empty("l", "k")),
		"x := a":                               stmtPart(assign(a, x)),
		"x := a[1] := x := - a":                stmtPart(assign(one(api.OpNeg, a), x, index("a", num(1)), x)),
		"l: goto if a then x else s[1]":        stmtPart(labelled(jump(choice(a, x, index("s", num(1)))), "l")),
		"if a then":                            stmtPart(when(a, empty())),
		"if a then else":                       stmtPart(when(a, empty(), empty())),
		"if a then l: else m:":                 stmtPart(when(a, empty("l"), empty("m"))),
		"if a then p(a) else if x then q":      stmtPart(when(a, invoke("p", a), when(x, invoke("q")))),
		"if a then begin if a then end else p": stmtPart(when(a, list(when(a, empty())), invoke("p"))),
		"if if a then a else x then goto a":    stmtPart(when(choice(a, a, x), jump(a))),
		"for x := 1 do":                        stmtPart(loop(x, empty(), once(num(1)))),
		"for a[x] := 1, 1 step - 1 until a, a while x do p": stmtPart(loop(index("a", x), invoke("p"), once(num(1)), step(num(1), one(api.OpNeg, num(1)), a), while(a, x))),
		"l: for x := if a then x else a do for x := a do":   stmtPart(labelled(loop(x, loop(x, empty(), once(a)), once(choice(a, x, a))), "l")),
		"p":                          stmtPart(invoke("p")),
		"p(\"a\", x)":                stmtPart(invoke("p", quoted("a"), x)),
		"begin end":                  stmtPart(list(empty())),
		"begin; end":                 stmtPart(list(empty(), empty())),
		"begin l:; p; begin end end": stmtPart(list(empty("l"), invoke("p"), list(empty()))),
		"l: begin real x; p end":     stmtPart(labelled(block(decls(variables(api.TyReal, "x")), invoke("p")), "l")),
		"begin procedure p;; end":    stmtPart(block(decls(proc(0, "p", empty())), empty())),
		"begin own boolean b, c; switch s := a, x; p; q end": stmtPart(block(decls(own(variables(api.TyBool, "b", "c")), switches("s", a, x)), invoke("p"), invoke("q"))),
		"integer i":             declPart(variables(api.TyInt, "i")),
		"own real x, y":         declPart(own(variables(api.TyReal, "x", "y"))),
		"boolean array b[1: 2]": declPart(arrays(api.TyBool, []string{"b"}, num(1), num(2))),
		"integer array b[a[1]: 2, (- 1) * a: 3, 1: 2, x: if a then x else a]": declPart(arrays(api.TyInt, []string{"b"}, index("a", num(1)), num(2), two(api.OpMul, one(api.OpNeg, num(1)), a), num(3), num(1), num(2), x, choice(a, x, a))),
		"switch s := l, if a then l else s[1]":                                declPart(switches("s", name("l"), choice(a, name("l"), index("s", num(1))))),
		"procedure p; p":                                                      declPart(proc(0, "p", invoke("p"))),
		"procedure p(f); f":                                                   declPart(proc(0, "p", invoke("f"), formal("f", 0, 0))),
		"real procedure p; begin end":                                         declPart(proc(api.TyReal, "p", list(empty()))),
		"boolean procedure p(b, c); value b, c; integer array b; boolean c; l: p := c": declPart(proc(api.TyBool, "p", labelled(assign(name("c"), name("p")), "l"), byValue(formal("b", api.SpArray, api.TyInt)), byValue(formal("c", api.SpVar, api.TyBool)))),
	} {
		wantText(t, p, want)
	}
}

// P4.9: all specifications.
func TestTextsOfSpecifications(t *testing.T) {
	formals := []api.Formal{
		formal("a", api.SpNone, 0), formal("b", api.SpVar, api.TyReal), formal("c", api.SpArray, 0), byValue(formal("d", api.SpArray, api.TyBool)), formal("e", api.SpLabel, 0), formal("f", api.SpSwitch, 0), formal("g", api.SpString, 0), formal("h", api.SpProc, 0),
	}
	wantText(t, declPart(proc(0, "p", empty(), formals...)), "procedure p(a, b, c, d, e, f, g, h); value d; real b; array c; boolean array d; label e; switch f; string g; procedure h;")
	wantText(t, declPart(proc(0, "p", invoke("h"), formal("h", api.SpProc, api.TyInt), byValue(formal("a", api.SpVar, api.TyInt)))), "procedure p(h, a); value a; integer procedure h; integer a; h")
	wantText(t, declPart(proc(api.TyReal, "p", empty(), formal("b", api.SpArray, api.TyReal), formal("a", api.SpProc, api.TyBool))), "real procedure p(b, a); real array b; boolean procedure a;")
}

// P4.9, P4.13, P4.14 and P4.15: parts made by chance. Their texts are those of the tables, and can be read back.
func TestTextsOfMany(t *testing.T) {
	m := newMaker(11)
	for _, s := range m.stmts(400) {
		wantText(t, stmtPart(s), laidOut(stmtTokens(s)))
		wantTokens(t, stmtPart(s))
		text, _ := tree.Print(s)
		if back, ok := readWhole(text, (*reader).stmt); !ok || !equal(back, s) {
			t.Errorf("%q is read as %s, %v; want %s", text, short(back), ok, short(s))
		}
	}
	for _, e := range m.exps(1000) {
		wantText(t, expPart(e), laidOut(expTokens(e)))
		wantTokens(t, expPart(e))
		text, _ := tree.PrintExp(e)
		if back, ok := readWhole(text, (*reader).exp); !ok || !equal(back, e) {
			t.Errorf("%q is read as %s, %v; want %s", text, short(back), ok, short(e))
		}
	}
	for _, d := range m.decls(400) {
		wantText(t, declPart(d), laidOut(declTokens(d)))
		wantTokens(t, declPart(d))
		text, _ := tree.PrintDecl(d)
		if back, ok := readWhole(text, (*reader).decl); !ok || !equal(back, d) {
			t.Errorf("%q is read as %s, %v; want %s", text, short(back), ok, short(d))
		}
	}
}

// wantTokens reports a part whose text does not have its tokens, with the blanks of the chapter between them and nowhere else.
func wantTokens(t *testing.T, p api.Part) {
	t.Helper()
	text, _ := printed(p)
	tokens, e, at := lex.Lex(text)
	if e != api.OK {
		t.Errorf("Lex(%q): error %d at %d", text, e, at)
		return
	}
	var texts []string
	end := 0
	for i, token := range tokens {
		texts = append(texts, text[token.At:token.End])
		gap := text[end:token.At]
		if tight := i == 0 || isTight(texts[i-1], texts[i]); tight && gap != "" || !tight && gap != " " {
			t.Errorf("%q ahead of the token %d of %q", gap, i, text)
		}
		end = token.End
	}
	if want := tokensOf(p); end != len(text) || !slices.Equal(texts, want) {
		t.Errorf("the tokens of %q are %q; want %q", text, texts, want)
	}
	if comments, _, _ := lex.Comments(text); len(comments) > 0 {
		t.Errorf("%q has comments", text)
	}
}

// P4.14: the texts of parts occur in the text of the whole.
func TestTextsOfParts(t *testing.T) {
	for _, s := range newMaker(12).stmts(250) {
		text, _ := tree.Print(s)
		paths, _ := tree.Paths(s)
		for _, path := range paths {
			p, _ := tree.At(s, path)
			if p.Kind == api.PaElem {
				continue
			}
			if part, e := printed(p); e != api.OK || !strings.Contains(text, part) {
				t.Errorf("%q, %d, does not occur in %q", part, e, text)
			}
		}
	}
}

// P4.13 and P4.15: all small expressions have different texts, and different tokens.
func TestTextsOfSmallExpressions(t *testing.T) {
	leaves := []api.Exp{name("a"), num(1)}
	var small, large []api.Exp
	for _, a := range leaves {
		small = append(small, one(api.OpNeg, a), one(api.OpNot, a), index("a", a), call("a", a))
		for op := api.OpAdd; op <= api.OpEqv; op++ {
			small = append(small, two(op, a, a))
		}
	}
	small = append(small, leaves...)
	small = append(small, choice(leaves[0], leaves[1], leaves[0]))
	for _, a := range small {
		large = append(large, one(api.OpNeg, a), one(api.OpNot, a), index("a", a), call("a", a), choice(a, leaves[0], leaves[1]))
		for _, b := range small {
			for op := api.OpAdd; op <= api.OpEqv; op++ {
				large = append(large, two(op, a, b))
			}
			large = append(large, choice(leaves[0], a, b), index("a", a, b), call("a", a, b))
		}
	}
	seen := map[string]api.Exp{}
	for _, e := range large {
		text, err := tree.PrintExp(e)
		if err != api.OK {
			t.Errorf("PrintExp(%s): error %d", short(e), err)
		}
		other, known := seen[text]
		if known && !equal(e, other) {
			t.Errorf("%s and %s have the text %q", short(e), short(other), text)
		}
		seen[text] = e
	}
	if len(seen) < 30000 {
		t.Errorf("%d texts", len(seen))
	}
}

// P4.13: a change of a part changes its text.
func TestTextsOfMutants(t *testing.T) {
	m := newMaker(13)
	compared := 0
	for range 6000 {
		whole := m.part(pick(m, api.PaStmt, api.PaDecl, api.PaExp), 1+m.Intn(5))
		path := pick(m, pathsOf(whole)...)
		p, _ := partAt(whole, path)
		other := replaced(whole, path, m.mutant(p))
		if errorOf(whole) != api.OK || errorOf(other) != api.OK {
			continue
		}
		compared++
		first, _ := printed(whole)
		second, _ := printed(other)
		if same := equal(content(whole), content(other)); same != (first == second) {
			t.Errorf("%q and %q are texts of equal parts: %v", first, second, same)
		}
	}
	if compared < 800 {
		t.Errorf("%d texts compared", compared)
	}
}

// P4.9: the longest texts.
func TestLongTexts(t *testing.T) {
	long := "abcdefghijklmnop"
	var names []string
	for i := range 8 {
		names = append(names, long[:15]+string(rune('a'+i)))
	}
	var formals []api.Formal
	for _, s := range names {
		formals = append(formals, byValue(formal(s, api.SpArray, api.TyInt)))
	}
	p := proc(api.TyInt, long, empty(), formals...)
	var ds []api.Decl
	for range 180 {
		ds = append(ds, p)
	}
	strung := api.Exp{Kind: api.ExString, Text: strings.Repeat("s", 80)}
	for _, s := range []api.Stmt{
		block(ds, empty()),
		block(decls(switches("s", slices.Repeat([]api.Exp{strung}, 1996)...)), empty()),
		empty(slices.Repeat([]string{long}, 1999)...),
		list(slices.Repeat([]api.Stmt{jump(strung)}, 999)...),
		jump(two(api.OpAdd, wide(9), two(api.OpSub, wide(8), wide(8)))),
		nested(59),
	} {
		text, e := tree.Print(s)
		if e != api.OK || len(text) >= 250000 || text != laidOut(stmtTokens(s)) {
			t.Errorf("the text of %s has %d bytes, %d", short(s), len(text), e)
		}
	}
	wantText(t, stmtPart(nested(59)), strings.Repeat("begin ", 59)+strings.TrimSpace(strings.Repeat("end ", 59)))
	wantText(t, stmtPart(row(2000)), "begin"+strings.Repeat(";", 1998)+" end")
	wantText(t, expPart(chain(60)), strings.Repeat("not (", 58)+"not a"+strings.Repeat(")", 58))
}

// wide returns an expression with all its operands at one depth.
func wide(depth int) api.Exp {
	if depth == 1 {
		return num(api.MaxInt)
	}
	return two(api.OpAdd+depth%16, wide(depth-1), wide(depth-1))
}
