package scope_test

import (
	"slices"
	"strings"
	"testing"

	"manorboy/api"
	"manorboy/scope"
)

// frame returns a program without problems of its own around a statement, in which v is a variable, w an array with two dimensions, s a switch, p and q are procedures with one and without parameters, f and g such functions, l is a label, and n, x and y are formal parameters: by name, and by value a variable and an array.
func frame(probe string) string {
	return "begin integer v; array w[1: 2, 1: 3]; switch s := l; procedure p(x);; procedure q;; integer procedure f(x);; integer procedure g;; " +
		"procedure r(n, x, y); value x, y; integer x; real array y; begin " + probe + " end; l: end"
}

// problemsOf returns the problems of the statement with a text, without their numbers.
func problemsOf(t *testing.T, text string) []api.Problem {
	t.Helper()
	problems, e := scope.Check(stmtOf(t, text))
	if e != api.OK {
		t.Fatalf("Check(%s): %d", text, e)
	}
	for i := range problems {
		problems[i].Node = 0
	}
	return problems
}

// kindOf returns the kind of the only problem of a text (0: there is none), which must have this name.
func kindOf(t *testing.T, text, name string) int {
	t.Helper()
	l := problemsOf(t, text)
	if len(l) == 0 {
		return 0
	}
	if len(l) > 1 || l[0].Name != name {
		t.Fatalf("Check(%s) = %v; want one problem of %q", text, l, name)
	}
	return l[0].Kind
}

// expect compares the kind of the only problem of a text with a letter: a point for no problem, K for PrKind, C for PrCount.
func expect(t *testing.T, text, name string, letter byte) {
	t.Helper()
	want := map[byte]int{'.': 0, 'K': api.PrKind, 'C': api.PrCount}[letter]
	if got := kindOf(t, text, name); got != want {
		t.Errorf("Check(%s): %d of %q; want %d", text, got, name, want)
	}
}

// TestTable checks each row of the chapter's table in all positions, in this order: value, target, goal, actual, choice. What cannot be a target has a blank there. (P6.7)
func TestTable(t *testing.T) {
	places := []string{"v := 0 + (E)", "E := 1", "goto E", "n(E)", "n(if true then E else 1)"}
	for _, row := range []struct{ exp, letters string }{
		{"v", "..K.."}, {"x", "..K.."},
		{"w", "KKK.K"}, {"y", "KKK.K"}, {"s", "KKK.K"}, {"p", "KKK.K"}, {"q", "KKK.K"}, {"outinteger", "KKK.K"}, {"outreal", "KKK.K"}, {"outboolean", "KKK.K"}, {"outstring", "KKK.K"},
		{"f", "CKK.C"}, {"abs", "CKK.C"}, {"sign", "CKK.C"}, {"entier", "CKK.C"}, {"g", ".KK.."}, {"inint", ".KK.."},
		{"l", "KK..."}, {"n", "....."},
		{"w[1, 2]", "..K.."}, {"w[1]", "CCKCC"}, {"w[1, 2, 3]", "CCKCC"}, {"y[1]", "..K.."}, {"y[1, 2, 3, 4]", "..K.."},
		{"s[1]", "KK..."}, {"s[1, 2]", "KKCCC"}, {"n[1]", "....."}, {"n[1, 2, 3, 4]", "....."},
		{"v[1]", "KKKKK"}, {"x[1]", "KKKKK"}, {"p[1]", "KKKKK"}, {"f[1]", "KKKKK"}, {"abs[1]", "KKKKK"}, {"outreal[1]", "KKKKK"}, {"l[1]", "KKKKK"},
		{"f(1)", ". K.."}, {"abs(1)", ". K.."}, {"entier(1)", ". K.."}, {"f(1, 2)", "C KCC"}, {"g(1)", "C KCC"}, {"inint(1)", "C KCC"}, {"sign(1, 2)", "C KCC"},
		{"n(1)", ". K.."}, {"n(1, 2, 3, 4, 5, 6, 7, 8)", ". K.."},
		{"p(1)", "K KKK"}, {"q(1)", "K KKK"}, {"outinteger(1)", "K KKK"}, {"outreal(1)", "K KKK"}, {"outboolean(1)", "K KKK"}, {"outstring(1)", "K KKK"}, {"v(1)", "K KKK"}, {"w(1)", "K KKK"}, {"s(1)", "K KKK"}, {"l(1)", "K KKK"}, {"x(1)", "K KKK"}, {"y(1)", "K KKK"},
		{"1", ". K.."}, {"2.5", ". K.."}, {"true", ". K.."}, {"false", ". K.."}, {"(- v)", ". K.."}, {"(not true)", ". K.."}, {"(v + 1)", ". K.."}, {"(v < 1 or true)", ". K.."},
		{"\"a\"", "K K.K"}, {"(if true then n else n)", ". ..."},
	} {
		name := row.exp[:len(row.exp)-len(strings.TrimLeft(row.exp, "abcdefghijklmnopqrstuvwxyz"))]
		if name == "true" || name == "false" {
			name = ""
		}
		for i, letter := range []byte(row.letters) {
			if letter != ' ' {
				expect(t, frame(strings.ReplaceAll(places[i], "E", row.exp)), name, letter)
			}
		}
	}
}

// TestCalls checks the table for statements that are calls: P6.7.
func TestCalls(t *testing.T) {
	for i, calls := range []string{
		"p(1)|q|f(1)|g|outinteger(1)|outreal(2.5)|outboolean(true)|outstring(\"a\")|inint|abs(1)|sign(v)|entier(v)|n|n(1)|n(1, 2, 3, 4, 5, 6, 7, 8)",
		"p|p(1, 2)|q(1)|f|f(1, 2)|g(1)|outinteger|outreal(1, 2)|outboolean|outstring|inint(1)|abs|sign|entier(1, 2)",
		"v|v(1)|w|w(1, 2)|s|s(1)|l|l(1)|x|x(1)|y|y(1)",
	} {
		for _, call := range strings.Split(calls, "|") {
			name, _, _ := strings.Cut(call, "(")
			expect(t, frame(call), name, ".CK"[i])
		}
	}
}

// TestResults checks where the identifier of a function is a right target: P6.7.
func TestResults(t *testing.T) {
	for _, x := range []struct {
		text   string
		letter byte
	}{
		{"begin integer procedure f; f := 1; end", '.'},
		{"begin integer procedure f(x); f := 1; end", '.'},
		{"begin integer procedure f; begin real procedure g; begin f := 1; g := 2 end; end; end", '.'},
		{"begin integer procedure f; begin procedure p; begin f := 1 end; end; end", '.'},
		{"begin integer procedure f; for f := 1 do; end", '.'},
		{"begin integer procedure f; if true then f := 1; end", '.'},
		{"begin integer procedure f; f := f + 1; end", '.'},
		{"begin integer procedure f(x); f := f(1); end", '.'},
		{"begin integer procedure f;; f := 1 end", 'K'},
		{"begin integer procedure f;; procedure g; f := 1; end", 'K'},
		{"begin procedure g; f := 1; integer procedure f;; end", 'K'},
		{"begin procedure f; f := 1; end", 'K'},
		{"begin integer procedure f; begin integer f; f := 1 end; end", '.'},
		{"begin integer procedure f(f); value f; integer f; f := 1; end", '.'},
		{"begin integer procedure f; f: f := 1; end", 'K'},
		{"begin integer procedure f; begin procedure f; f := 1; end; end", 'K'},
		{"begin integer procedure f; begin integer procedure f;; f := 1 end; end", 'K'},
	} {
		expect(t, x.text, "f", x.letter)
	}
	// Of two functions with one identifier it denotes the first one, also within the second one.
	s := stmtOf(t, "begin integer procedure f;; integer procedure f; f := 1; end")
	if l, e := scope.Check(s); e != api.OK || !slices.Equal(l, []api.Problem{{Kind: api.PrTwice, Node: 3, Name: "f"}, {Kind: api.PrKind, Node: 5, Name: "f"}}) {
		t.Error(l, e)
	}
}

// TestPositions checks in which positions parts stand: P6.7. In each text the identifier l, of a label, or w, of an array, tells of the position by its problem.
func TestPositions(t *testing.T) {
	for _, x := range []struct {
		text   string
		name   string
		letter byte
	}{
		{"v := l", "l", 'K'}, {"v := - l", "l", 'K'}, {"v := 1 + l", "l", 'K'}, {"if l then", "l", 'K'},
		{"v := w[l, 1]", "l", 'K'}, {"w[1, l] := 1", "l", 'K'}, {"goto s[l]", "l", 'K'}, {"n(w[1, l])", "l", 'K'},
		{"for v := l do", "l", 'K'}, {"for v := l step 1 until 2 do", "l", 'K'}, {"for v := 1 step l until 2 do", "l", 'K'}, {"for v := 1 step 1 until l do", "l", 'K'},
		{"for v := l while true do", "l", 'K'}, {"for v := 1 while l do", "l", 'K'}, {"for v := 1, 2, l do", "l", 'K'}, {"for l := 1 do", "l", 'K'}, {"for w[l, 1] := 1 do", "l", 'K'},
		{"v := l := 1", "l", 'K'}, {"begin array a[l: 2]; end", "l", 'K'}, {"begin array a[1: 2, 1: l + 1]; end", "l", 'K'},
		{"goto l", "l", '.'}, {"begin switch t := l, s[1], n, l; end", "l", '.'}, {"begin switch t := l, 1; end", "", 'K'}, {"begin switch t := l, v, l; end", "v", 'K'},
		{"goto if true then l else l", "l", '.'}, {"goto if true then l else if false then v else l", "v", 'K'}, {"goto if l then l else l", "l", 'K'}, {"goto if true then l else 1", "", 'K'},
		{"n(l)", "l", '.'}, {"n(1, 2, l)", "l", '.'}, {"v := f(l)", "l", '.'}, {"v := n(1, l)", "l", '.'}, {"v := f(- l)", "l", 'K'},
		{"n(w)", "w", '.'}, {"v := f(w)", "w", '.'}, {"n(f(w))", "w", '.'}, {"n(if true then w else 1)", "w", 'K'}, {"v := f(if true then 1 else w)", "w", 'K'},
		{"n(if true then l else 1)", "l", '.'}, {"n(if l then 1 else 1)", "l", 'K'}, {"n(if true then (if true then 1 else l) else 1)", "l", '.'}, {"n(if true then (if true then 1 else w) else 1)", "w", 'K'},
		{"n(if true then 1 else f(w))", "w", '.'}, {"n(if true then f(if true then w else 1) else 1)", "w", 'K'}, {"n(if (if true then l else true) then 1 else 1)", "l", 'K'},
		{"v := if true then l else 1", "l", 'K'}, {"v := if true then 1 else if true then l else 1", "l", 'K'},
		{"n(if true then \"a\" else 1)", "", 'K'}, {"n(\"a\", 1)", "", '.'}, {"v := f(\"a\")", "", '.'}, {"v := w[\"a\", 1]", "", 'K'}, {"begin array a[\"a\": 1]; end", "", 'K'},
	} {
		expect(t, frame(x.text), x.name, x.letter)
	}
}
