package parse_test

import (
	"testing"

	"manorboy/api"
	"manorboy/lex"
	"manorboy/parse"
	"manorboy/tree"
)

// The comments of the tests of this package name the rules S1 to S13, all of which P5.1 promises, and the promises P5.2 to P5.11.

// wantStmt reports a text that does not denote a statement.
func wantStmt(t *testing.T, text string, want api.Stmt) {
	t.Helper()
	if s, e, at := parse.ParseStmt(text); e != api.OK || at != 0 || !tree.Same(s, want) {
		t.Errorf("ParseStmt(%q) = %s, %d, %d", short(text), short(s), e, at)
	}
}

// wantProgram reports a text that does not denote a program.
func wantProgram(t *testing.T, text string, want api.Stmt) {
	t.Helper()
	if s, e, at := parse.Parse(text); e != api.OK || at != 0 || !tree.Same(s, want) {
		t.Errorf("Parse(%q) = %s, %d, %d", short(text), short(s), e, at)
	}
}

// wantExp reports a text that does not denote an expression.
func wantExp(t *testing.T, text string, want api.Exp) {
	t.Helper()
	if x, e, at := parse.ParseExp(text); e != api.OK || at != 0 || !tree.SameExp(x, want) {
		t.Errorf("ParseExp(%q) = %s, %d, %d", short(text), short(x), e, at)
	}
}

// wantFailure reports a text that has not an error at an offset, in the place of a program (kind 0), a statement (1) or an expression (2).
func wantFailure(t *testing.T, kind int, text string, want api.Errno, wantAt int) {
	t.Helper()
	var s api.Stmt
	var x api.Exp
	var e api.Errno
	var at int
	switch kind {
	case 0:
		s, e, at = parse.Parse(text)
		if formatted, e2, at2 := parse.Format(text); formatted != "" || e2 != e || at2 != at {
			t.Errorf("Format(%q): %q, %d at %d", short(text), formatted, e2, at2)
		}
		if pieces, e2, at2 := parse.Places(text); len(pieces) != 0 || e2 != e || at2 != at {
			t.Errorf("Places(%q): %v, %d at %d", short(text), pieces, e2, at2)
		}
		if n, e2 := parse.Find(text, 0); n != 0 || e2 != e {
			t.Errorf("Find(%q): %d, %d", short(text), n, e2)
		}
	case 1:
		s, e, at = parse.ParseStmt(text)
	case 2:
		x, e, at = parse.ParseExp(text)
	}
	if e != want || at != wantAt || !tree.Same(s, api.Stmt{}) || !tree.SameExp(x, api.Exp{}) {
		t.Errorf("%d: %q: %s %s %d at %d, not %d at %d", kind, short(text), short(s), short(x), e, at, want, wantAt)
	}
}

// S7, P5.7: the examples of expressions, and others that show the levels.
func TestExpressions(t *testing.T) {
	a, b, c, p, q, r := name("a"), name("b"), name("c"), name("p"), name("q"), name("r")
	for text, want := range map[string]api.Exp{
		"- a * b + 1":                         two(api.OpAdd, one(api.OpNeg, two(api.OpMul, a, b)), num(1)),
		"if p then q else if r then 1 else 2": choice(p, q, choice(r, num(1), num(2))),
		"a - b - c":                           two(api.OpSub, two(api.OpSub, a, b), c),
		"a ^ b ^ c":                           two(api.OpPow, two(api.OpPow, a, b), c),
		"- a + b":                             two(api.OpAdd, one(api.OpNeg, a), b),
		"+ a":                                 a,
		"+ a + b":                             two(api.OpAdd, a, b),
		"+ (+ (+ a))":                         a,
		"+ a * b - c":                         two(api.OpSub, two(api.OpMul, a, b), c),
		"- (- a)":                             one(api.OpNeg, one(api.OpNeg, a)),
		"- a ^ b":                             one(api.OpNeg, two(api.OpPow, a, b)),
		"a < - b":                             two(api.OpLt, a, one(api.OpNeg, b)),
		"- a < + b":                           two(api.OpLt, one(api.OpNeg, a), b),
		"not a < b":                           one(api.OpNot, two(api.OpLt, a, b)),
		"not - a":                             one(api.OpNot, one(api.OpNeg, a)),
		"a and not b":                         two(api.OpAnd, a, one(api.OpNot, b)),
		"a // b / c * a":                      two(api.OpMul, two(api.OpDiv, two(api.OpQuo, a, b), c), a),
		"(((a)))":                             a,
		"a[b, c[1]]":                          index("a", b, index("c", num(1))),
		"f(a, \"(\")":                         call("f", a, quoted("(")),
		"f(if p then q else r, 2.5)":          call("f", choice(p, q, r), number("2.5")),
		"(if p then q else r) + 1":            two(api.OpAdd, choice(p, q, r), num(1)),
		"if (if a then b else c) then p else q eqv r": choice(choice(a, b, c), p, two(api.OpEqv, q, r)),
		"true imp false":            two(api.OpImp, api.Exp{Kind: api.ExTrue}, api.Exp{Kind: api.ExFalse}),
		"\"\"":                      quoted(""),
		"x[1, 2, 3, 4]":             index("x", num(1), num(2), num(3), num(4)),
		"f(1, 2, 3, 4, 5, 6, 7, 8)": call("f", num(1), num(2), num(3), num(4), num(5), num(6), num(7), num(8)),
		"2147483647":                num(api.MaxInt),
	} {
		wantExp(t, text, want)
	}
}

// S7 and the syntax: wrong tokens of expressions.
func TestWrongExpressions(t *testing.T) {
	for text, at := range map[string]int{
		"a < b < c": 6, "2 ^ - 1": 4, "not not p": 4, "1 + if p then q else r": 4, "a = b /= c": 6,
		"": 0, "  ": 2, "a b": 2, "a +": 3, "a + ": 4, "()": 1, "(a": 2, "(a]": 2, "a)": 1, "* a": 0, "- - a": 2, "+ - a": 2,
		"- + a": 2, "a * - b": 4, "a - - b": 4,
		"if a then b": 11, "if a then b else": 16, "if if a then b else c then d else e": 3, "if a then if b then c else d else e": 10,
		"f()": 2, "a[]": 2, "a[1": 3, "a[1)": 3, "a[1][2]": 4, "f(1)(2)": 4, "f(1)[2]": 4, "f (a, )": 6, "1(2)": 1, "(f)(1)": 3,
		"x[1, 2, 3, 4, 5]": 12, "f(1, 2, 3, 4, 5, 6, 7, 8, 9)": 24, "a := b": 2, "goto a": 0, "begin end": 0, "a; b": 1,
		"a and < b": 6, "a = not b": 4, "- not a": 2, "a:": 1, "true(1)": 4, "\"a\" \"b\"": 4,
	} {
		wantFailure(t, 2, text, api.ErrForm, at)
	}
}

// S7 and the tree: statements.
func TestStatements(t *testing.T) {
	a, b, x, y := name("a"), name("b"), name("x"), name("y")
	for text, want := range map[string]api.Stmt{
		"":                                       empty(),
		" ":                                      empty(),
		"l:":                                     empty("l"),
		"l: l: m: p":                             labelled(invoke("p"), "l", "l", "m"),
		"x := a[1] := y + 1":                     assign(two(api.OpAdd, y, num(1)), x, index("a", num(1))),
		"x := (y)":                               assign(y, x),
		"x := y":                                 assign(y, x),
		"x := + y":                               assign(y, x),
		"x := y := (a)":                          assign(a, x, y),
		"x := a[1] := a[1, 2] := a[2]":           assign(index("a", num(2)), x, index("a", num(1)), index("a", num(1), num(2))),
		"x[if a then b else x] := 1":             assign(num(1), index("x", choice(a, b, x))),
		"x := if a then b else y":                assign(choice(a, b, y), x),
		"goto if a then b else y":                jump(choice(a, b, y)),
		"goto x[2]":                              jump(index("x", num(2))),
		"goto (a + 1)":                           jump(two(api.OpAdd, a, num(1))),
		"p(a, 2)":                                invoke("p", a, num(2)),
		"if a then begin if b then c end else d": when(a, list(when(b, invoke("c"))), invoke("d")),
		"if a then else if b then else":          when(a, empty(), when(b, empty(), empty())),
		"if a then c else if b then d else e":    when(a, invoke("c"), when(b, invoke("d"), invoke("e"))),
		"if a then c else for x := 1 do if b then d":    when(a, invoke("c"), loop(x, when(b, invoke("d")), elem(api.FeOnce, num(1)))),
		"if if a then b else x then l: goto y":          when(choice(a, b, x), labelled(jump(y), "l")),
		"if a then x := if b then 1 else 2 else y := 3": when(a, assign(choice(b, num(1), num(2)), x), assign(num(3), y)),
		"for x := 1 do": loop(x, empty(), elem(api.FeOnce, num(1))),
		"for a[1] := 1, 2 step 3 until x, y while b do p": loop(index("a", num(1)), invoke("p"), elem(api.FeOnce, num(1)), elem(api.FeStep, num(2), num(3), x), elem(api.FeWhile, y, b)),
		"for x := 1 do for y := 2 do if a then p else q":  loop(x, loop(y, when(a, invoke("p"), invoke("q")), elem(api.FeOnce, num(2))), elem(api.FeOnce, num(1))),
		"begin end":                          list(empty()),
		"begin ; end":                        list(empty(), empty()),
		"begin l: end what follows":          list(empty("l")),
		"begin begin end begin end":          list(list(empty())),
		"begin comment x; p; comment y; end": list(invoke("p"), empty()),
	} {
		wantStmt(t, text, want)
	}
}

// S7 and the syntax: wrong tokens of statements.
func TestWrongStatements(t *testing.T) {
	for text, at := range map[string]int{
		"x := (y) := 1": 9, "x + 1": 2, "if a then if b then c": 10, "if a then l: if b then c": 13, "if a then for x := 1 do": 10,
		"x := + y := 1": 9, "x := y + 1 := 2": 11, "x := f(1) := 2": 10, "x := 1 := 2": 7,
		"x := if a then b else c := 1": 24, "f(1) := 2": 5, "x[1]": 4, "x[1] ": 5, "x[1] + 1": 5, "x[1](2)": 4, "x :=": 4, "x(": 2,
		"x()": 2, "1": 0, "(x) := 1": 0, "+ x := 1": 0, "\"l\": x": 0, "1: x": 0, "l: 1": 3, "l : :": 4, ":": 0, "x; y": 1,
		"; ": 0, "else": 0, "end": 0,
		"if a": 4, "if a else": 5, "if then": 3, "if a then b else c else d": 19, "goto": 4, "goto goto x": 5, "goto begin": 5,
		"for x": 5, "for (x) := 1 do": 4, "for x(1) := 1 do": 5, "for x := do": 9, "for x := 1": 10, "for x := 1 step 2 do": 18,
		"for x := 1 step 2 while a do": 18, "for x := 1 until 2 do": 11, "for x := 1, do": 12, "for x := y := 1 do": 11,
		"for 1 := 1 do": 4, "for x := 1 while a while b do": 19, "for x, y := 1 do": 5,
		"begin": 5, "begin x": 7, "begin x y end": 8, "begin x end; y": 11, "begin integer i end": 16,
		"begin x; integer i; end": 9, "begin l: integer i; end": 9, "begin integer i; real x; x; y: real z end": 31,
		"integer i":        0,
		"x := 1 begin end": 7, "p q": 2, "x[1, 2, 3, 4, 5] := 1": 12, "x := a[1, 2, 3, 4, 5] := 1": 17, "p(1, 2, 3, 4, 5, 6, 7, 8, 9)": 24,
	} {
		wantFailure(t, 1, text, api.ErrForm, at)
	}
}

// S6: programs, and their declarations.
func TestPrograms(t *testing.T) {
	n := name("n")
	for text, want := range map[string]api.Stmt{
		"begin end":                     list(empty()),
		"l: m: begin end":               labelled(list(empty()), "l", "m"),
		"begin integer i; end":          block(decls(variables(api.TyInt, "i")), empty()),
		"begin own boolean a, b; p end": block(decls(own(variables(api.TyBool, "a", "b"))), invoke("p")),
		"begin real x; integer i;; end": block(decls(variables(api.TyReal, "x"), variables(api.TyInt, "i")), empty(), empty()),
		"begin array a[1: 2], b, c[0: n, 1: 2]; a[1] := 0 end":                 block(decls(arrays(api.TyReal, []string{"a"}, num(1), num(2)), arrays(api.TyReal, []string{"b", "c"}, num(0), n, num(1), num(2))), assign(num(0), index("a", num(1)))),
		"begin own integer array a[1: 2], b[3: 4]; boolean array c[5: 6]; end": block(decls(own(arrays(api.TyInt, []string{"a"}, num(1), num(2))), own(arrays(api.TyInt, []string{"b"}, num(3), num(4))), arrays(api.TyBool, []string{"c"}, num(5), num(6))), empty()),
		"begin array a[1: 2, 3: 4, 5: 6, 7: if n then 8 else 9]; end":          block(decls(arrays(api.TyReal, []string{"a"}, num(1), num(2), num(3), num(4), num(5), num(6), num(7), choice(n, num(8), num(9)))), empty()),
		"begin switch s := l, if n then l else m, s[1]; l: m: end":             block(decls(switches("s", name("l"), choice(n, name("l"), name("m")), index("s", num(1)))), empty("l", "m")),
		"begin procedure p; ; end":                                             block(decls(proc(api.TyNone, "p", empty())), empty()),
		"begin procedure p; begin real x; end; p end":                          block(decls(proc(api.TyNone, "p", block(decls(variables(api.TyReal, "x")), empty()))), invoke("p")),
		"begin boolean procedure f; if n then p else q; end":                   block(decls(proc(api.TyBool, "f", when(n, invoke("p"), invoke("q")))), empty()),
		"begin real procedure f; l: f := 1; integer procedure g; ; x end":      block(decls(proc(api.TyReal, "f", labelled(assign(num(1), name("f")), "l")), proc(api.TyInt, "g", empty())), invoke("x")),
	} {
		wantProgram(t, text, want)
		got, e, at := parse.Tokens(tokensOf(t, text))
		if e != api.OK || at != 0 || !tree.Same(got, want) {
			t.Errorf("Tokens of %q: %s, %d, %d", text, short(got), e, at)
		}
	}
}

// S6, S8 and the syntax: wrong tokens of programs.
func TestWrongPrograms(t *testing.T) {
	for text, at := range map[string]int{
		"begin ; integer i end": 8, "x := 1": 2, "begin end;": 9, "": 0, " \n": 2, "x": 1, "x:": 2, "x: y: ": 6, "x: y := 1": 5,
		"goto x": 0, "begin": 5, "begin end end": 10, "begin end else": 10, "if a then begin end": 0, "1: begin end": 0,
		"integer i": 0, "l: ; begin end": 3,
		"begin own a; end": 10, "begin own array a[1: 2]; end": 10, "begin own procedure p; ; end": 10,
		"begin own integer procedure p; ; end": 18, "begin own switch s := l; end": 10, "begin integer switch s := l; end": 14,
		"begin integer i, 1; end": 17, "begin integer i j; end": 16, "begin own own integer i; end": 10,
		"begin integer real x; end": 14, "begin integer; end": 13,
		"begin array a; end": 13, "begin array a[1]; end": 15, "begin array a[1: 2; end": 18, "begin array [1: 2]; end": 12,
		"begin array a[1: 2], ; end": 21, "begin array a[1: 2] b[1: 2]; end": 20,
		"begin array a[1: 2, 3: 4, 5: 6, 7: 8, 9: 10]; end": 36, "begin array a[]; end": 14, "begin array a[1: 2: 3]; end": 18,
		"begin array integer a[1: 2]; end": 12, "begin array a[1: 2][3: 4]; end": 19,
		"begin switch s; end": 14, "begin switch s := ; end": 18, "begin switch s, t := l; end": 14,
		"begin switch s[1] := l; end": 14, "begin switch s := goto; end": 18,
		"begin procedure; end": 15, "begin procedure p; end": 19, "begin procedure p() ; ; end": 18,
		"begin procedure p(x; ; end": 19, "begin procedure p(x) x; end": 21, "begin procedure p(1); ; end": 18,
		"begin procedure p(a, b, c, d, e, f, g, h, i); ; end": 40, "begin procedure p, q; ; end": 17,
		"begin procedure p(x); value x integer x; ; end": 30, "begin procedure p(x); value; ; end": 27,
		"begin procedure p(x); integer x; value x; ; end": 33, "begin procedure p(x); value x; value x; ; end": 31,
		"begin procedure p(x); own integer x; ; end": 22, "begin procedure p(x); label array x; ; end": 28,
		"begin procedure p(x); integer label x; ; end": 30, "begin procedure p(x); string; ; end": 28,
		"begin procedure p(x); integer array procedure x; ; end": 36, "begin procedure p(x); ; label x; ; end": 24,
		"begin procedure p(x); array x[1: 2]; ; end": 29, "begin procedure p(x); integer procedure x(y); ; end": 41,
		"begin procedure p(x); x": 23,
	} {
		wantFailure(t, 0, text, api.ErrForm, at)
	}
}

// S2: what lex.Lex finds comes ahead of all else, wherever it is.
func TestTextsWithoutTokens(t *testing.T) {
	for _, text := range []string{") $", "begin $ end", "begin x := 1. end", "x x \"a", "begin 2147483648 end", "begin abcdefghijklmnopq end", "begin x; x comment y; end", "begin procedure p(x, x); ; $ end"} {
		_, e, at := lex.Lex(text)
		if e == api.OK {
			t.Fatal(text)
		}
		for kind := range 3 {
			wantFailure(t, kind, text, e, at)
		}
	}
}

// P5.2: what is printed is read back; for a program, in all ways.
func TestBack(t *testing.T) {
	m := newMaker(52)
	for _, s := range m.stmts(600) {
		wantStmt(t, textOf(t, s), s)
	}
	for _, x := range m.exps(600) {
		wantExp(t, expText(t, x), x)
	}
	for _, s := range m.programs(200, 6, api.MaxNodes) {
		text := textOf(t, s)
		wantProgram(t, text, s)
		got, e, at := parse.Tokens(tokensOf(t, text))
		if e != api.OK || at != 0 || !tree.Same(got, s) {
			t.Errorf("Tokens of %q: %s, %d, %d", short(text), short(got), e, at)
		}
		if formatted, e, at := parse.Format(text); formatted != text || e != api.OK || at != 0 {
			t.Errorf("Format(%q) = %q, %d, %d", short(text), short(formatted), e, at)
		}
	}
}

// S6, S7, S8 and P5.3: each way to write a tree denotes it, and its format is the one text of the tree.
func TestWaysToWrite(t *testing.T) {
	m := newMaker(53)
	for _, s := range m.programs(400, 6, api.MaxNodes) {
		w := m.write(s)
		wantProgram(t, w.text, s)
		wantStmt(t, w.text, s)
		formatted, e, at := parse.Format(w.text)
		if formatted != textOf(t, s) || e != api.OK || at != 0 {
			t.Errorf("Format(%q) = %q, %d, %d", short(w.text), short(formatted), e, at)
		}
		if again, e, at := parse.Format(formatted); again != formatted || e != api.OK || at != 0 {
			t.Errorf("Format(%q) = %q, %d, %d", short(formatted), short(again), e, at)
		}
	}
	for _, s := range m.stmts(400) {
		wantStmt(t, m.write(s).text, s)
	}
	for _, x := range m.exps(400) {
		wantExp(t, m.writeExp(x).text, x)
	}
}

// P5.4: parentheses around an expression, and comments, do not matter.
func TestParentheses(t *testing.T) {
	m := newMaker(54)
	for _, x := range m.exps(300) {
		text := m.writeExp(x).text
		wantExp(t, "("+text+")", x)
		wantExp(t, "(("+text+"))", x)
	}
	for _, s := range m.programs(60, 5, 300) {
		text := m.write(s).text
		pieces, e, _ := parse.Places(text)
		paths, _ := tree.Paths(s)
		if e != api.OK || len(pieces) != len(paths) {
			t.Fatal(e, len(pieces), len(paths), short(text))
		}
		for i, path := range paths {
			if part, _ := tree.At(s, path); part.Kind == api.PaExp && !isTarget(s, path) {
				wantProgram(t, text[:pieces[i].At]+"("+text[pieces[i].At:pieces[i].End]+")"+text[pieces[i].End:], s)
			}
		}
		stripped, e, _ := lex.Strip(text)
		if e != api.OK {
			t.Fatal(e)
		}
		wantProgram(t, stripped, s)
	}
}

// isTarget reports whether the part with a path, which is not empty, is a target.
func isTarget(s api.Stmt, path []int) bool {
	last := len(path) - 1
	parent, _ := tree.At(s, path[:last])
	return parent.Kind == api.PaStmt && path[last] < len(parent.Stmt.Targets)
}

// P5.7: of two operators in a row the one of the higher level binds first, and of one level the first one; two relations are wrong. The same with operators in front.
func TestLevels(t *testing.T) {
	a, b, c := name("a"), name("b"), name("c")
	for first := api.OpAdd; first <= api.OpEqv; first++ {
		one1, two1 := levels[api.OpNeg], levels[first]
		wantExp(t, "a "+two1.sign+" b", two(first, a, b))
		for second := api.OpAdd; second <= api.OpEqv; second++ {
			two2 := levels[second]
			text := "a " + two1.sign + " b " + two2.sign + " c"
			switch {
			case two1.level == 6 && two2.level == 6:
				wantFailure(t, 2, text, api.ErrForm, len("a "+two1.sign+" b "))
			case two1.level >= two2.level:
				wantExp(t, text, two(second, two(first, a, b), c))
			default:
				wantExp(t, text, two(first, a, two(second, b, c)))
			}
		}
		if two1.level > one1.level {
			wantExp(t, "- a "+two1.sign+" b", one(api.OpNeg, two(first, a, b)))
		} else {
			wantExp(t, "- a "+two1.sign+" b", two(first, one(api.OpNeg, a), b))
		}
		if two1.level > levels[api.OpNot].level {
			wantExp(t, "not a "+two1.sign+" b", one(api.OpNot, two(first, a, b)))
			wantFailure(t, 2, "a "+two1.sign+" not b", api.ErrForm, len("a "+two1.sign+" "))
		} else {
			wantExp(t, "not a "+two1.sign+" b", two(first, one(api.OpNot, a), b))
			wantExp(t, "a "+two1.sign+" not b", two(first, a, one(api.OpNot, b)))
		}
		if two1.level >= 7 {
			wantFailure(t, 2, "a "+two1.sign+" - b", api.ErrForm, len("a "+two1.sign+" "))
			wantFailure(t, 2, "a "+two1.sign+" + b", api.ErrForm, len("a "+two1.sign+" "))
		} else {
			wantExp(t, "a "+two1.sign+" - b", two(first, a, one(api.OpNeg, b)))
			wantExp(t, "a "+two1.sign+" + b", two(first, a, b))
		}
		wantExp(t, "+ a "+two1.sign+" b", two(first, a, b))
		wantExp(t, "(a "+two1.sign+" b) "+two1.sign+" c", two(first, two(first, a, b), c))
		wantExp(t, "a "+two1.sign+" (b "+two1.sign+" c)", two(first, a, two(first, b, c)))
	}
}

// P5.8: statements that are put together are put together in the tree.
func TestComposition(t *testing.T) {
	m := newMaker(58)
	stmts := m.stmts(300)
	for i, s := range stmts {
		other := stmts[(i*7+1)%len(stmts)]
		if tree.Size(s)+tree.Size(other) > 1000 {
			continue
		}
		x, target := m.exp(3), m.target(2)
		text, otherText := m.write(s).text, m.write(other).text
		expText, targetText := m.writeExp(x).text, expText(t, target)
		wantStmt(t, "begin "+text+"; "+otherText+" end", list(s, other))
		wantStmt(t, "begin real x; procedure p; "+text+"; "+otherText+" end", block(decls(variables(api.TyReal, "x"), proc(api.TyNone, "p", s)), other))
		wantStmt(t, "for "+targetText+" := "+expText+" do "+text, loop(target, s, elem(api.FeOnce, x)))
		wantStmt(t, "for "+targetText+" := "+expText+" step "+expText+" until "+expText+", "+expText+" while "+expText+" do "+text, loop(target, s, elem(api.FeStep, x, x, x), elem(api.FeWhile, x, x)))
		wantStmt(t, "l1: "+text, labelled(s, append([]string{"l1"}, s.Labels...)...))
		wantStmt(t, targetText+" := x := "+expText, assign(x, target, name("x")))
		wantStmt(t, "goto "+expText, jump(x))
		wantStmt(t, "p("+expText+", "+expText+")", invoke("p", x, x))
		if isClosed(s) {
			wantStmt(t, "if "+expText+" then "+text+" else "+otherText, when(x, s, other))
			wantStmt(t, "if "+expText+" then "+text, when(x, s))
		} else {
			wantStmt(t, "if "+expText+" then else "+text, when(x, empty(), s))
		}
	}
}
