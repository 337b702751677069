package parse_test

import (
	"slices"
	"strings"
	"testing"

	"manorboy/api"
	"manorboy/parse"
	"manorboy/tree"
)

// P5.9: pairs of parentheses.
func TestPairs(t *testing.T) {
	for _, x := range []api.Exp{name("a"), num(0), quoted("("), two(api.OpAdd, name("a"), one(api.OpNeg, name("b"))), choice(name("a"), num(1), num(2)), api.Exp{Kind: api.ExTrue}} {
		text, e := tree.PrintExp(x)
		if e != api.OK {
			t.Fatal(e)
		}
		if strings.ContainsAny(text, "()") && x.Kind != api.ExString {
			text = "a + b"
			x = two(api.OpAdd, name("a"), name("b"))
		}
		for n := range 204 {
			all := strings.Repeat("(", n) + text + strings.Repeat(")", n)
			if n <= 200 {
				wantExp(t, all, x)
				continue
			}
			wantFailure(t, 2, all, api.ErrLimit, 200)
			wantFailure(t, 2, strings.Repeat("( ", n)+text, api.ErrLimit, 400)
		}
		wantFailure(t, 2, strings.Repeat("(", 201)+")", api.ErrLimit, 200)
		wantFailure(t, 2, strings.Repeat("(", 200)+")", api.ErrForm, 200)
		wantFailure(t, 2, strings.Repeat("(", 200)+text+strings.Repeat(")", 201), api.ErrForm, 400+len(text))
		wantFailure(t, 2, strings.Repeat("(", 200)+text+strings.Repeat(")", 199), api.ErrForm, 399+len(text))
		// Those that are closed do not count.
		wantExp(t, strings.Repeat("(", 200)+"a"+strings.Repeat(")", 200)+"+"+strings.Repeat("(", 200)+"a"+strings.Repeat(")", 200), two(api.OpAdd, name("a"), name("a")))
	}
}

// S3: too many open tokens, of all kinds; a wrong token is wrong for its form, if it is.
func TestOpenTokens(t *testing.T) {
	begins := strings.Repeat("begin ", 200)
	wantSyntax(t, tokensOf(t, begins+strings.Repeat("end ", 200)), api.OK, 0)
	wantSyntax(t, tokensOf(t, begins), api.ErrForm, 200)
	wantSyntax(t, tokensOf(t, begins+"begin"), api.ErrLimit, 200)
	wantSyntax(t, tokensOf(t, begins+"begin "+strings.Repeat("end ", 201)), api.ErrLimit, 200)
	wantSyntax(t, tokensOf(t, begins+"("), api.ErrForm, 200)
	wantSyntax(t, tokensOf(t, begins+"["), api.ErrForm, 200)
	wantSyntax(t, tokensOf(t, begins+")"), api.ErrForm, 200)
	wantSyntax(t, tokensOf(t, begins+"x("), api.ErrLimit, 201)
	wantSyntax(t, tokensOf(t, begins+"x["), api.ErrLimit, 201)
	wantSyntax(t, tokensOf(t, begins+"x := y("), api.ErrLimit, 203)
	wantSyntax(t, tokensOf(t, begins+"x := y["), api.ErrLimit, 203)
	wantSyntax(t, tokensOf(t, begins+"x := ("), api.ErrLimit, 202)
	wantSyntax(t, tokensOf(t, begins+"x := (("), api.ErrLimit, 202)
	wantSyntax(t, tokensOf(t, begins+"x := 1 ("), api.ErrForm, 203)
	wantSyntax(t, tokensOf(t, begins+"x(1)("), api.ErrLimit, 201)
	wantSyntax(t, tokensOf(t, begins+"array a["), api.ErrLimit, 202)
	wantSyntax(t, tokensOf(t, begins+"procedure p("), api.ErrLimit, 202)
	wantSyntax(t, tokensOf(t, begins+"x := \"(\"; goto \"[\"; p end"), api.ErrForm, 209)
	wantSyntax(t, tokensOf(t, begins+"end; begin x := 1 end; begin begin"), api.ErrLimit, 209)
	wantSyntax(t, tokensOf(t, begins+"end; x[1] := x[(1)]"), api.ErrLimit, 209)
	wantSyntax(t, tokensOf(t, begins+"end; x[1] := x[1] + y(2)"), api.ErrForm, 216)
	mixed := "begin " + strings.Repeat("x[f((begin1(", 49)
	wantSyntax(t, tokensOf(t, mixed), api.ErrForm, len(tokensOf(t, mixed)))
	wantSyntax(t, tokensOf(t, mixed+"((("), api.ErrForm, len(tokensOf(t, mixed))+3)
	wantSyntax(t, tokensOf(t, mixed+"(((("), api.ErrLimit, len(tokensOf(t, mixed))+3)
	wantFailure(t, 0, begins+"p(", api.ErrLimit, len(begins)+1)
	wantFailure(t, 1, begins+"begin", api.ErrLimit, len(begins))
}

// S4, S6 and S7: trees at the limits of chapter 4.
func TestTreeLimits(t *testing.T) {
	wantProgram(t, "begin"+strings.Repeat(";", 1998)+"end", list(slices.Repeat([]api.Stmt{empty()}, 1999)...))
	wantFailure(t, 0, "begin"+strings.Repeat(";", 1999)+"end", api.ErrLimit, 0)
	deep := func(n int) string { return strings.Repeat("begin ", n) + strings.Repeat("end ", n) }
	if s, e, at := parse.Parse(deep(59)); e != api.OK || at != 0 || tree.Depth(s) != 60 {
		t.Error(e, at)
	}
	wantFailure(t, 0, deep(60), api.ErrLimit, 0)
	wantFailure(t, 1, " "+deep(200), api.ErrLimit, 0)
	if x, e, at := parse.ParseExp("a" + strings.Repeat(" + a", 59)); e != api.OK || at != 0 || tree.DepthExp(x) != 60 {
		t.Error(e, at)
	}
	wantFailure(t, 2, "a"+strings.Repeat(" + a", 60), api.ErrLimit, 0)
	wantFailure(t, 2, strings.Repeat("if a then b else ", 60)+"c", api.ErrLimit, 0)
	if x, e, at := parse.ParseExp(strings.Repeat("if a then b else ", 59) + "c"); e != api.OK || at != 0 || tree.DepthExp(x) != 60 {
		t.Error(e, at)
	}
	wantFailure(t, 1, strings.Repeat("if a then b else ", 60)+"c", api.ErrLimit, 0)
	wantFailure(t, 1, strings.Repeat("l: ", 2000), api.ErrLimit, 0)
	wantStmt(t, strings.Repeat("l: ", 1999), empty(slices.Repeat([]string{"l"}, 1999)...))
	wantFailure(t, 0, "begin integer i"+strings.Repeat(", i", 1997)+"; end", api.ErrLimit, 0)
	wantProgram(t, "begin integer i"+strings.Repeat(", i", 1995)+"; end", block(decls(variables(api.TyInt, slices.Repeat([]string{"i"}, 1996)...)), empty()))
}

// R1, S3: programs of as many tokens as there can be, wide ones and deep ones.
func TestLongPrograms(t *testing.T) {
	for _, parts := range [][3]string{
		{"begin", ";", " end"}, {"begin x := a", " + a", " end"}, {"begin x := ", "x := ", "1 end"},
		{"begin x := ", "if a then a else ", "1 end"}, {"begin ", "if a then a else ", " end"},
		{"begin ", "for a := a do ", " end"}, {"l: ", "l: ", "begin end"},
		{"begin integer a", ", a", "; end"}, {"begin array a", ", a[1: 2], a", "[1: 2]; end"},
		{"begin switch a := a", ", a", "; end"}, {"begin procedure a; value a", ", a", "; ; end"},
		{"begin procedure a; label a", ", a", "; ; end"}, {"begin ", "procedure a(a); ; ", " end"},
		{"begin ", "procedure a; label a; ; ", " end"}, {"begin for a := a", ", a", " do end"},
		{"begin x := a", " or a and a", " end"}, {"begin ", "integer a; ", " end"}, {"begin ", "a(a[(a)]); ", " end"},
	} {
		count := (api.MaxTokens - 20) / len(tokensOf(t, parts[1]))
		count = min(count, (api.MaxSource-100)/len(parts[1]))
		text := parts[0] + strings.Repeat(parts[1], count) + parts[2]
		l := tokensOf(t, text)
		if e, index := parse.Syntax(l); e != api.OK || index != 0 {
			t.Errorf("%q: %d at %d", short(text), e, index)
			continue
		}
		_, e, at := parse.Parse(text)
		_, e2, index := parse.Tokens(l)
		if e != e2 || e == api.OK || e == api.ErrLimit && at+index != 0 || e != api.ErrLimit && l[index].At != at {
			t.Errorf("%q: %d at %d, %d at %d", short(text), e, at, e2, index)
		}
		wantSyntax(t, l[:len(l)-1], api.ErrForm, len(l)-1)
	}
}
