package parse_test

import (
	"slices"
	"testing"

	"manorboy/api"
	"manorboy/lex"
	"manorboy/parse"
)

func sign(s string) api.Token { return api.Token{Kind: api.TkSign, Text: s} }

func wordToken(s string) api.Token { return api.Token{Kind: api.TkWord, Text: s} }

// wantRepair reports tokens of a text that have another repair.
func wantRepair(t *testing.T, text string, want api.Fix) {
	t.Helper()
	if f, e, index := parse.Repair(tokensOf(t, text)); f != want || e != api.OK || index != 0 {
		t.Errorf("Repair of %q: %v, %d at %d", text, f, e, index)
	}
}

// S13: the examples, and others of each kind of repairs.
func TestRepairs(t *testing.T) {
	put := func(index int, token api.Token) api.Fix { return api.Fix{Index: index, Put: token} }
	drop := func(index int) api.Fix { return api.Fix{Drop: true, Index: index} }
	wantRepair(t, "begin x := (1 + 2 end", put(7, sign(")")))
	wantRepair(t, "begin x ) end", drop(2))
	wantRepair(t, "begin end;", drop(2))
	wantRepair(t, "begin x := 1", put(4, wordToken("end")))
	wantRepair(t, "begin", put(1, wordToken("end")))
	wantRepair(t, "end", put(0, wordToken("begin")))
	wantRepair(t, "x := 1 end", put(0, wordToken("begin")))
	wantRepair(t, "x begin end", put(1, sign(":")))
	wantRepair(t, "1 begin end", drop(0))
	wantRepair(t, "begin x y end", drop(2))
	wantRepair(t, "begin x := 1 2 end", drop(4))
	wantRepair(t, "begin x 1 end", drop(2))
	wantRepair(t, "begin x := + end", put(4, wordToken("true")))
	wantRepair(t, "begin for := 1 do end", put(2, api.Token{Kind: api.TkName, Text: "x"}))
	wantRepair(t, "begin array a[1: ]; end", put(6, wordToken("true")))
	wantRepair(t, "begin integer a, ; end", put(4, api.Token{Kind: api.TkName, Text: "x"}))
	wantRepair(t, "begin x; integer a; end", drop(3))
}

// S13: which repairs do not help, and the errors.
func TestNoRepairs(t *testing.T) {
	wantNone := func(l []api.Token, want api.Errno, wantIndex int) {
		t.Helper()
		if f, e, index := parse.Repair(l); f != (api.Fix{}) || e != want || index != wantIndex {
			t.Errorf("Repair: %v, %d at %d: %s", f, e, index, short(l))
		}
	}
	wantNone(nil, api.ErrNone, 0)
	wantNone([]api.Token{}, api.ErrNone, 0)
	wantNone(tokensOf(t, ") ) )"), api.ErrNone, 0)
	wantNone(tokensOf(t, "begin x ) ) ) end"), api.ErrNone, 2)
	wantNone(tokensOf(t, "begin begin begin"), api.ErrNone, 3)
	wantNone(tokensOf(t, "begin x ) end ; y )"), api.ErrNone, 2)
	wantNone(tokensOf(t, "begin x :="), api.ErrNone, 3)
	wantNone(tokensOf(t, "begin array a[1 end"), api.ErrNone, 5)
	wantNone(tokensOf(t, "begin end"), api.ErrState, 0)
	wantNone(tokensOf(t, "begin procedure p(x, x); ; end"), api.ErrState, 0)
	calls := func(n int) []api.Token { return slices.Repeat(tokensOf(t, "x ;"), n) }
	right := slices.Concat(tokensOf(t, "begin"), calls(29), tokensOf(t, "end"))
	if len(right) != 60 {
		t.Fatal(len(right))
	}
	wantNone(right, api.ErrState, 0)
	wantNone(append(slices.Clone(right[:59]), sign("+")), api.ErrNone, 59)
	wantNone(inserted(right, 1, sign(";")), api.ErrLimit, 0)
	wantNone(inserted(right, 1, sign(")")), api.ErrLimit, 0)
	wantNone(slices.Repeat(tokensOf(t, "begin"), 201), api.ErrLimit, 0)
	if f, e, index := parse.Repair(inserted(right[1:], 0, sign(")"))); f.Drop || f.Index != 0 || e != api.ErrNone || index != 0 {
		t.Error(f, e, index)
	}
	if f, e, index := parse.Repair(append(slices.Clone(right[:58]), sign(")"), right[59])); !f.Drop || f.Index != 58 || e != api.OK || index != 0 {
		t.Error(f, e, index)
	}
}

// repairsInOrder returns all repairs of tokens in the order of the chapter.
func repairsInOrder(count, wrong int) []api.Fix {
	var fixes []api.Fix
	for index := wrong; index >= 0; index-- {
		if index < count {
			fixes = append(fixes, api.Fix{Drop: true, Index: index})
		}
		for _, s := range lex.Signs() {
			fixes = append(fixes, api.Fix{Index: index, Put: sign(s)})
		}
		for _, s := range lex.Words() {
			if s != "comment" {
				fixes = append(fixes, api.Fix{Index: index, Put: wordToken(s)})
			}
		}
		fixes = append(fixes, api.Fix{Index: index, Put: api.Token{Kind: api.TkName, Text: "x"}}, api.Fix{Index: index, Put: api.Token{Kind: api.TkInt}})
	}
	return fixes
}

// repaired returns tokens behind a repair.
func repaired(l []api.Token, f api.Fix) []api.Token {
	if f.Drop {
		return slices.Concat(l[:f.Index], l[f.Index+1:])
	}
	return inserted(l, f.Index, f.Put)
}

// S13, P5.10: the first repair that helps is returned, or it is said that there is none.
func TestFirstRepair(t *testing.T) {
	g := readGrammar()
	m := newMaker(13)
	counts := map[api.Errno]int{}
	for n := range 400 {
		l := changed(m, g.sentence(m, "program", 4+n%50))
		if m.Intn(4) == 0 {
			l = changed(m, l)
		}
		lexError, _ := lex.Check(l)
		at := g.wrongAt("program", l)
		if lexError != api.OK || at < 0 || len(l) > api.MaxRepair {
			continue
		}
		f, e, index := parse.Repair(l)
		counts[e]++
		if e != api.OK && (e != api.ErrNone || index != at || f != (api.Fix{})) {
			t.Errorf("%v, %d at %d: %s", f, e, index, short(l))
		}
		for _, other := range repairsInOrder(len(l), at) {
			with := repaired(l, other)
			lexError, _ := lex.Check(with)
			syntaxError, _ := parse.Syntax(with)
			if lexError == api.OK && syntaxError == api.OK {
				if f != other || e != api.OK || index != 0 {
					t.Errorf("%v, %d at %d, not %v: %s", f, e, index, other, short(l))
				}
				break
			}
			if e == api.OK && f == other {
				t.Errorf("%v does not help: %s", f, short(l))
			}
		}
		if e == api.OK {
			applied, e := parse.Apply(l, f)
			if e != api.OK || f.Index > at || !slices.Equal(applied, repaired(l, f)) || g.wrongAt("program", applied) >= 0 {
				t.Errorf("%v, %d: %s", f, e, short(l))
			}
		}
	}
	if counts[api.OK] < 100 || counts[api.ErrNone] < 20 {
		t.Error(counts)
	}
}

// S12: all indices, with tokens of all kinds, valid or not, which keep all of their fields.
func TestApply(t *testing.T) {
	l := []api.Token{{Kind: api.TkName, Text: "begin", N: 3, At: 5, End: 2}, {Kind: 99, Text: "?", Real: api.Real{Man: 1}, At: -1}, {}, {Kind: api.TkInt, N: -4, At: 7, End: 8}}
	token := api.Token{Kind: -3, Text: "comment", N: 1, Real: api.Real{Man: 2, Exp: 3}, At: 11, End: 12}
	for count := range len(l) + 1 {
		tokens := l[:count:count]
		for index := -2; index <= count+2; index++ {
			for _, drop := range []bool{false, true} {
				f := api.Fix{Drop: drop, Index: index, Put: token}
				got, e := parse.Apply(tokens, f)
				if index < 0 || index > count || drop && index == count {
					if e != api.ErrArg || len(got) != 0 {
						t.Error(count, f, got, e)
					}
					continue
				}
				if e != api.OK || !slices.Equal(got, repaired(tokens, f)) {
					t.Error(count, f, got, e)
				}
				if drop {
					continue
				}
				// P5.10: a token that was inserted can be dropped.
				if back, e := parse.Apply(got, api.Fix{Drop: true, Index: index}); e != api.OK || !slices.Equal(back, tokens) {
					t.Error(count, f, back, e)
				}
			}
		}
	}
	for _, index := range []int{-1 << 62, 1 << 62} {
		for _, drop := range []bool{false, true} {
			if got, e := parse.Apply(l, api.Fix{Drop: drop, Index: index}); e != api.ErrArg || len(got) != 0 {
				t.Error(index, got, e)
			}
		}
	}
	many := slices.Repeat(l, api.MaxTokens)
	if got, e := parse.Apply(many, api.Fix{Index: 1, Put: token}); e != api.OK || len(got) != len(many)+1 {
		t.Error(len(got), e)
	}
}
