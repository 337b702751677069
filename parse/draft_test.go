package parse_test

import (
	"slices"
	"testing"

	"manorboy/api"
	"manorboy/lex"
	"manorboy/parse"
)

// wantCompleted reports the beginning of a program that Complete does not make a program of.
func wantCompleted(t *testing.T, l []api.Token) {
	t.Helper()
	behind, e, index := parse.Complete(l)
	if e != api.OK || index != 0 || len(behind) > 2000 {
		t.Errorf("Complete: %d at %d, %d tokens: %s", e, index, len(behind), short(l))
	}
	for _, token := range behind {
		if !lex.Valid(token) {
			t.Errorf("Complete: not valid: %v", token)
		}
	}
	all := slices.Concat(l, behind)
	if e, at := lex.Check(all); e != api.OK {
		t.Errorf("Complete: lex.Check: %d at %d: %s", e, at, short(all))
	}
	if e, at := parse.Syntax(all); e != api.OK {
		t.Errorf("Complete: Syntax: %d at %d: %s", e, at, short(all))
	}
	if wrong := drafts.wrongAt("program", all); wrong >= 0 {
		t.Errorf("Complete: wrong at %d: %s", wrong, short(all))
	}
	if e, _ := parse.Syntax(l); e == api.OK && len(behind) > 0 {
		// Nothing can stand behind a program.
		t.Errorf("Complete: tokens behind a program: %s", short(behind))
	}
}

var drafts = readGrammar()

// S11, P5.5: each beginning of a program can be completed.
func TestBeginnings(t *testing.T) {
	g := drafts
	m := newMaker(11)
	for n := range 200 {
		l := g.sentence(m, "program", 4+n%60)
		for i := range len(l) + 1 {
			wantCompleted(t, l[:i])
		}
	}
	for _, s := range m.programs(30, 5, 60) {
		l := tokensOf(t, m.write(s).text)
		for i := range min(len(l), api.MaxDraft) + 1 {
			wantCompleted(t, l[:i])
		}
	}
}

// S11: beginnings that leave much open.
func TestLongDrafts(t *testing.T) {
	for _, text := range []string{
		"x := if (", "begin array a[", "x[", "x[if f(", "begin procedure p; for x := if (", "if a then begin ", "f(-",
		"begin own integer array a, b[1:(", "for x := 1 step 2 until x[", "begin switch s := if (",
		"begin procedure p(x); value x; procedure x; ", "l: ",
	} {
		part := tokensOf(t, text)
		var l []api.Token
		for len(l)+len(part) < api.MaxDraft {
			l = append(l, part...)
		}
		begin := tokensOf(t, "begin")
		if e, at := parse.Syntax(append(begin, l...)); e == api.ErrForm && at == len(l)+1 {
			wantCompleted(t, append(begin, l...))
		}
		wantCompleted(t, append(tokensOf(t, "l: begin"), part...))
	}
	nested := slices.Repeat(tokensOf(t, "begin"), api.MaxDraft)
	wantCompleted(t, nested)
	wantCompleted(t, append(tokensOf(t, "begin goto"), nested[:0]...))
	wantCompleted(t, slices.Concat(tokensOf(t, "begin x :="), slices.Repeat(tokensOf(t, "if("), 73)))
	wantCompleted(t, slices.Concat(tokensOf(t, "begin x :="), slices.Repeat(tokensOf(t, "("), 147)))
	wantCompleted(t, slices.Concat(tokensOf(t, "begin array a"), slices.Repeat(tokensOf(t, "[a"), 73)))
	wantCompleted(t, nil)
	wantCompleted(t, tokensOf(t, "begin end"))
	wantCompleted(t, tokensOf(t, "x"))
	wantCompleted(t, tokensOf(t, "x: y"))
	wantCompleted(t, tokensOf(t, "begin procedure p(x, x"))
}

// S11: too many tokens, and wrong ones.
func TestNoDrafts(t *testing.T) {
	wantNone := func(l []api.Token, want api.Errno, wantIndex int) {
		t.Helper()
		if behind, e, index := parse.Complete(l); e != want || index != wantIndex || len(behind) != 0 {
			t.Errorf("Complete: %v, %d at %d: %s", behind, e, index, short(l))
		}
	}
	begins := func(n int) []api.Token { return slices.Repeat(tokensOf(t, "begin"), n) }
	wantCompleted(t, begins(150))
	wantNone(begins(151), api.ErrLimit, 0)
	wantNone(begins(201), api.ErrLimit, 0)
	wantNone(append(tokensOf(t, ")"), begins(150)...), api.ErrLimit, 0)
	wantNone(append(begins(149), tokensOf(t, ")")...), api.ErrForm, 149)
	wantNone(append(tokensOf(t, ")"), begins(149)...), api.ErrForm, 0)
	wantNone(tokensOf(t, "begin x ) end"), api.ErrForm, 2)
	wantNone(tokensOf(t, "begin end;"), api.ErrForm, 2)
	wantNone(tokensOf(t, "begin ; integer i"), api.ErrForm, 2)
	m := newMaker(12)
	for n := range 500 {
		l := changed(m, drafts.sentence(m, "program", 4+n%60))
		if e, _ := lex.Check(l); e != api.OK || len(l) > api.MaxDraft {
			continue
		}
		if at := drafts.wrongAt("program", l); at >= 0 && at < len(l) {
			wantNone(l, api.ErrForm, at)
		} else {
			wantCompleted(t, l)
		}
	}
}
