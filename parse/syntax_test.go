package parse_test

import (
	"maps"
	"slices"
	"testing"

	"manorboy/api"
	"manorboy/lex"
	"manorboy/parse"
)

// syntaxOf returns what the second reading says of tokens that have no error by lex.Check.
func (g *grammar) syntaxOf(l []api.Token) (api.Errno, int) {
	wrong := g.wrongAt("program", l)
	if at := tooDeep(l); at >= 0 && (wrong < 0 || at < wrong) {
		return api.ErrLimit, at
	}
	if wrong < 0 {
		return api.OK, 0
	}
	return api.ErrForm, wrong
}

// tooDeep returns the index of the first token that is one too many to be open, or -1.
func tooDeep(l []api.Token) int {
	open := 0
	for i, t := range l {
		switch symbolOf(t) {
		case `"("`, `"["`, `"begin"`:
			open++
			if open > 200 {
				return i
			}
		case `")"`, `"]"`, `"end"`:
			open--
		}
	}
	return -1
}

// wantSyntax reports tokens of which Syntax does not say the same as the second reading, and of which Tokens, Complete or Repair say something else.
func wantSyntax(t *testing.T, l []api.Token, want api.Errno, wantIndex int) {
	t.Helper()
	e, index := parse.Syntax(l)
	if e != want || index != wantIndex {
		t.Errorf("Syntax: %d at %d, not %d at %d: %s", e, index, want, wantIndex, short(l))
	}
	if want == api.OK {
		return
	}
	if _, e, index := parse.Tokens(l); e != want || index != wantIndex {
		t.Errorf("Tokens: %d at %d, not %d at %d: %s", e, index, want, wantIndex, short(l))
	}
}

// S3 and P5.5: behind the beginning of a program each token is right that a program can go on with, and each other one is wrong.
func TestEachNextToken(t *testing.T) {
	g := readGrammar()
	m := newMaker(3)
	for n := range 100 {
		l := g.sentence(m, "program", 3+n%60)
		r := g.recognizer("program")
		for i, next := range l {
			for _, other := range allTokens() {
				tokens := append(slices.Clone(l[:i]), other)
				switch {
				case !r.expects(other):
					wantSyntax(t, tokens, api.ErrForm, i)
				case other.Text != "end" || other.Kind != api.TkWord:
					wantSyntax(t, tokens, api.ErrForm, i+1)
				default:
					want, at := g.syntaxOf(tokens)
					wantSyntax(t, tokens, want, at)
				}
			}
			r.take(next)
		}
		wantSyntax(t, l, api.OK, 0)
		for _, other := range allTokens() {
			wantSyntax(t, append(slices.Clone(l), other), api.ErrForm, len(l))
		}
	}
}

// sentence returns at most so many tokens that a symbol stands for, by chance.
func (g *grammar) sentence(m maker, symbol string, most int) []api.Token {
	for {
		if l, room := g.derived(m, symbol, most-g.smallest()[symbol].tokens); room >= 0 {
			return l
		}
	}
}

// derived returns tokens that a symbol stands for, and how much room they leave: how many tokens there can be beside the fewest ones. Where there is no room, it goes on with the fewest.
func (g *grammar) derived(m maker, symbol string, room int) ([]api.Token, int) {
	sequences := g.rules[symbol]
	if sequences == nil {
		return []api.Token{g.tokens[symbol]}, room
	}
	least := g.smallest()[symbol]
	chosen := m.Intn(len(sequences))
	further := g.tokensOf(sequences[chosen]) - least.tokens
	if further > room {
		chosen, further = least.sequence, 0
	}
	room -= further
	var l []api.Token
	for _, inner := range sequences[chosen] {
		var tokens []api.Token
		tokens, room = g.derived(m, inner, room)
		l = append(l, tokens...)
	}
	return l, room
}

// tokensOf returns the fewest tokens that a sequence stands for.
func (g *grammar) tokensOf(sequence []string) int {
	tokens := 0
	for _, symbol := range sequence {
		tokens++
		if g.rules[symbol] != nil {
			tokens += g.smallest()[symbol].tokens - 1
		}
	}
	return tokens
}

// least is the sequence of a symbol with the fewest tokens, and their number.
type least struct{ sequence, tokens int }

func (g *grammar) smallest() map[string]least {
	if g.least != nil {
		return g.least
	}
	g.least = map[string]least{}
	for changed := true; changed; {
		changed = false
		for _, name := range slices.Sorted(maps.Keys(g.rules)) {
			for i, sequence := range g.rules[name] {
				known := !slices.ContainsFunc(sequence, func(symbol string) bool {
					_, found := g.least[symbol]
					return g.rules[symbol] != nil && !found
				})
				tokens := g.tokensOf(sequence)
				if old, found := g.least[name]; known && (!found || tokens < old.tokens) {
					g.least[name] = least{i, tokens}
					changed = true
				}
			}
		}
	}
	return g.least
}

// changed returns tokens with a change by chance.
func changed(m maker, l []api.Token) []api.Token {
	l = slices.Clone(l)
	if len(l) == 0 {
		return l
	}
	i, k := m.Intn(len(l)), m.Intn(len(l))
	switch m.Intn(6) {
	case 0:
		return slices.Delete(l, i, i+1)
	case 1:
		return slices.Insert(l, i, pick(m, allTokens()...))
	case 2:
		l[i] = pick(m, allTokens()...)
	case 3:
		l[i], l[k] = l[k], l[i]
	case 4:
		return slices.Concat(l[:i], l[k:])
	case 5:
		return slices.Insert(l, i, l[min(i, k):max(i, k)]...)
	}
	return l
}

// S1, S3: tokens by the rules of the chapter, and changes of them.
func TestSyntaxByRules(t *testing.T) {
	g := readGrammar()
	m := newMaker(33)
	right, wrong := 0, 0
	for n := range 3000 {
		l := g.sentence(m, "program", 4+n%80)
		if e, _ := lex.Check(l); e != api.OK {
			t.Fatal(e, l)
		}
		wantSyntax(t, l, api.OK, 0)
		for range m.Intn(3) {
			l = changed(m, l)
		}
		want, at := lex.Check(l)
		if want == api.OK {
			want, at = g.syntaxOf(l)
		}
		if want == api.OK {
			right++
		} else {
			wrong++
		}
		wantSyntax(t, l, want, at)
	}
	if right < 100 || wrong < 100 {
		t.Error("too few", right, wrong)
	}
}

// S7: the rules for one statement, and for one expression.
func TestPartsByRules(t *testing.T) {
	g := readGrammar()
	m := newMaker(37)
	for n := range 2000 {
		symbol := []string{"statement", "expression"}[n%2]
		l := g.sentence(m, symbol, 1+n%50)
		for range m.Intn(3) {
			l = changed(m, l)
		}
		text, e, _ := lex.Print(l)
		if e != api.OK {
			continue
		}
		l = tokensOf(t, text)
		at := g.wrongAt(symbol, l)
		var got api.Errno
		var gotAt int
		if symbol == "statement" {
			_, got, gotAt = parse.ParseStmt(text)
		} else {
			_, got, gotAt = parse.ParseExp(text)
		}
		switch {
		case at < 0 && got == api.ErrForm, at >= 0 && got != api.ErrForm,
			at == len(l) && gotAt != len(text), at >= 0 && at < len(l) && gotAt != l[at].At:
			t.Errorf("%s %q: %d at %d, wrong is %d", symbol, text, got, gotAt, at)
		}
	}
}

// S1: the errors of lex.Check come ahead of all others, also of those of the functions with limits of their own.
func TestCheckedFirst(t *testing.T) {
	close := api.Token{Kind: api.TkSign, Text: ")"}
	invalid := api.Token{Kind: api.TkName, Text: "begin"}
	end := api.Token{Kind: api.TkWord, Text: "end"}
	x := api.Token{Kind: api.TkName, Text: "x"}
	begin := api.Token{Kind: api.TkWord, Text: "begin"}
	fill := slices.Repeat([]api.Token{close}, 200)
	for i, l := range [][]api.Token{
		{invalid}, {close, invalid}, {begin, end, invalid}, {close, end, x}, {begin, end, x}, {begin, end, begin, end}, {{}},
		{{Kind: api.TkWord, Text: "comment"}}, {close, {Kind: api.TkInt, N: -1}}, {begin, {Kind: api.TkSign, Text: "#"}, end}, {begin, {Kind: api.TkInt, N: 1, Text: "x"}},
		append(slices.Clone(fill), invalid), append(slices.Clone(fill), end, x), slices.Repeat([]api.Token{x}, api.MaxTokens+1), slices.Repeat([]api.Token{invalid}, api.MaxTokens+1),
	} {
		want, at := lex.Check(l)
		if want == api.OK {
			t.Fatal(i)
		}
		wantSyntax(t, l, want, at)
		if s, e, n := parse.Tokens(l); e != want || n != at || s.Kind != 0 {
			t.Errorf("%d: Tokens: %d at %d", i, e, n)
		}
		if l, e, n := parse.Complete(l); e != want || n != at || len(l) != 0 {
			t.Errorf("%d: Complete: %d at %d", i, e, n)
		}
		if f, e, n := parse.Repair(l); e != want || n != at || f != (api.Fix{}) {
			t.Errorf("%d: Repair: %d at %d", i, e, n)
		}
	}
}

// P5.5: what stands behind a wrong token does not matter.
func TestBehindWrongTokens(t *testing.T) {
	g := readGrammar()
	m := newMaker(55)
	count := 0
	for n := range 600 {
		l := changed(m, g.sentence(m, "program", 4+n%60))
		e, at := parse.Syntax(l)
		if lexError, _ := lex.Check(l); e == api.OK || at == len(l) || lexError != api.OK {
			continue
		}
		count++
		for range 10 {
			other := append(slices.Clone(l[:at+1]), g.sentence(m, pick(m, "program", "statement", "expression", "declaration", "body"), 20)...)
			if lexError, _ := lex.Check(other); lexError == api.OK {
				wantSyntax(t, other, e, at)
			}
		}
		wantCompleted(t, l[:at])
	}
	if count < 100 {
		t.Error("too few", count)
	}
}
