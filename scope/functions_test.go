package scope_test

import (
	"slices"
	"strings"
	"testing"

	"manorboy/api"
	"manorboy/scope"
)

// The program of the chapter's examples.
const example = "begin integer n, i; real array a[1: n]; procedure p(x); l: a[x] := i; m: p(m); goto l; n := q end"

func expectUses(t *testing.T, text string, want ...api.Use) {
	t.Helper()
	if got, e := scope.Uses(stmtOf(t, text)); e != api.OK || !slices.Equal(got, want) {
		t.Errorf("Uses(%s) = %v, %d; want %v", text, got, e, want)
	}
}

func expectProblems(t *testing.T, text string, want ...api.Problem) {
	t.Helper()
	if got, e := scope.Check(stmtOf(t, text)); e != api.OK || !slices.Equal(got, want) {
		t.Errorf("Check(%s) = %v, %d; want %v", text, got, e, want)
	}
}

func expectPlaces(t *testing.T, text string, want ...api.Place) {
	t.Helper()
	if got, e := scope.Places(stmtOf(t, text)); e != api.OK || !slices.Equal(got, want) {
		t.Errorf("Places(%s) = %v, %d; want %v", text, got, e, want)
	}
}

// TestStandard checks P6.1.
func TestStandard(t *testing.T) {
	want := []string{"outinteger", "outreal", "outboolean", "outstring", "inint", "abs", "sign", "entier"}
	l := scope.Standard()
	if !slices.Equal(l, want) {
		t.Error(l)
	}
	clear(l)
	if !slices.Equal(scope.Standard(), want) {
		t.Error("a change of a result changes the next one")
	}
	for i, name := range want {
		s := stmtOf(t, "begin end")
		p := api.Place{Kind: api.BiStandard, Node: -1, At: i}
		if got, e := scope.Name(s, p); got != name || e != api.OK {
			t.Error(got, e)
		}
		if got, e := scope.Lookup(s, 1, name); got != p || e != api.OK {
			t.Error(got, e)
		}
	}
}

// TestExample checks the chapter's examples: P6.2 to P6.8.
func TestExample(t *testing.T) {
	expectUses(t, example,
		api.Use{Node: 4, Name: "n"}, api.Use{Node: 7, Name: "a", Place: api.Place{Kind: api.BiArray, Node: 2}},
		api.Use{Node: 8, Name: "x", Place: api.Place{Kind: api.BiFormal, Node: 5}}, api.Use{Node: 9, Name: "i", Place: api.Place{Kind: api.BiVar, Node: 1, At: 1}},
		api.Use{Node: 10, Name: "p", Place: api.Place{Kind: api.BiProc, Node: 5}}, api.Use{Node: 11, Name: "m", Place: api.Place{Kind: api.BiLabel, Node: 10}},
		api.Use{Node: 13, Name: "l"}, api.Use{Node: 15, Name: "n", Place: api.Place{Kind: api.BiVar, Node: 1}}, api.Use{Node: 16, Name: "q"})
	expectProblems(t, example, api.Problem{Kind: api.PrBound, Node: 4, Name: "n"}, api.Problem{Kind: api.PrUnknown, Node: 13, Name: "l"}, api.Problem{Kind: api.PrUnknown, Node: 16, Name: "q"})
	expectPlaces(t, example, api.Place{Kind: api.BiVar, Node: 1}, api.Place{Kind: api.BiVar, Node: 1, At: 1}, api.Place{Kind: api.BiArray, Node: 2},
		api.Place{Kind: api.BiProc, Node: 5}, api.Place{Kind: api.BiFormal, Node: 5}, api.Place{Kind: api.BiLabel, Node: 6}, api.Place{Kind: api.BiLabel, Node: 10})
	s := stmtOf(t, example)
	if l, e := scope.Free(s); e != api.OK || !slices.Equal(l, []string{"l", "n", "q"}) {
		t.Error(l, e)
	}
	if p, e := scope.Lookup(s, 9, "l"); e != api.OK || p != (api.Place{Kind: api.BiLabel, Node: 6}) {
		t.Error(p, e)
	}
	if p, e := scope.Lookup(s, 0, "abs"); e != api.OK || p != (api.Place{Kind: api.BiStandard, Node: -1, At: 5}) {
		t.Error(p, e)
	}
	for number := range 17 {
		level, enclosing := 1, -1
		switch {
		case number == 0 || number == 3 || number == 4:
			level = 0
		case number >= 6 && number <= 9:
			level, enclosing = 2, 5
		}
		if got, e := scope.Level(s, number); got != level || e != api.OK {
			t.Errorf("Level at %d = %d, %d; want %d", number, got, e, level)
		}
		if got, e := scope.Enclosing(s, number); got != enclosing || e != api.OK {
			t.Errorf("Enclosing at %d = %d, %d; want %d", number, got, e, enclosing)
		}
	}
}

// TestUses checks what identifiers denote in scopes of all kinds: P6.2.
func TestUses(t *testing.T) {
	use := func(node int, name string, kind, declared, at int) api.Use {
		return api.Use{Node: node, Name: name, Place: api.Place{Kind: kind, Node: declared, At: at}}
	}
	// The whole statement is a list of its own, and so are the statements of conditional and for statements; of one identifier the first declaration counts.
	expectUses(t, "l: m: goto m", use(1, "m", api.BiLabel, 0, 1))
	expectUses(t, "m: m: goto m", use(1, "m", api.BiLabel, 0, 0))
	expectUses(t, "if true then l: goto l else m: goto l", use(3, "l", api.BiLabel, 2, 0), api.Use{Node: 5, Name: "l"})
	expectUses(t, "m: for i := i do l: goto l", api.Use{Node: 1, Name: "i"}, api.Use{Node: 3, Name: "i"}, use(5, "l", api.BiLabel, 4, 0))
	expectUses(t, "begin goto l; l: begin goto l; k: end; goto k; l: end", use(2, "l", api.BiLabel, 3, 0), use(5, "l", api.BiLabel, 3, 0), api.Use{Node: 8, Name: "k"})
	expectUses(t, "begin integer l; goto l; l: end", use(3, "l", api.BiVar, 1, 0))
	expectUses(t, "begin real x; boolean y, x; x end", use(3, "x", api.BiVar, 1, 0))
	// The labels of a block are known in its declarations, but not in its bounds.
	expectUses(t, "begin switch s := l; array a[l: 2]; l: end", use(2, "l", api.BiLabel, 6, 0), api.Use{Node: 4, Name: "l"})
	expectUses(t, "l: begin array a[l: a]; l: end", use(2, "l", api.BiLabel, 0, 0), api.Use{Node: 3, Name: "a"})
	// All of a block is known in its procedures, also the bounds of a block within.
	expectUses(t, "begin procedure p; begin array a[x: p]; a end; integer x; end",
		use(4, "x", api.BiVar, 7, 0), use(5, "p", api.BiProc, 1, 0), use(6, "a", api.BiArray, 3, 0))
	// The formal parameters are known in the body alone, and a label of the body is inside of them.
	expectUses(t, "begin procedure p(x, y); x(y); x; y(p) end", use(2, "x", api.BiFormal, 1, 0), use(3, "y", api.BiFormal, 1, 1), api.Use{Node: 4, Name: "x"}, api.Use{Node: 5, Name: "y"}, use(6, "p", api.BiProc, 1, 0))
	expectUses(t, "begin procedure p(x); x: x(x[x(x)]);; end", use(2, "x", api.BiLabel, 2, 0), use(3, "x", api.BiLabel, 2, 0), use(4, "x", api.BiLabel, 2, 0), use(5, "x", api.BiLabel, 2, 0))
	expectUses(t, "begin procedure p(p); p;; p end", use(2, "p", api.BiFormal, 1, 0), use(4, "p", api.BiProc, 1, 0))
	// Standard procedures can be declared again.
	expectUses(t, "begin integer abs; abs(sign) end", use(2, "abs", api.BiVar, 1, 0), use(3, "sign", api.BiStandard, -1, 6))
	expectUses(t, "inint: goto inint", use(1, "inint", api.BiLabel, 0, 0))
	expectUses(t, "begin end")
}

// TestPlacesAndNames checks the order of places, what is declared there, and places where nothing is: P6.3.
func TestPlacesAndNames(t *testing.T) {
	text := "k: l: begin own integer n, n; real array a, b[0: 1]; switch s := l; integer procedure p(x, y); m: x; real procedure q; begin o: end; l: k: end"
	names := []string{"k", "l", "n", "n", "a", "b", "s", "p", "x", "y", "m", "q", "o", "l", "k"}
	want := []api.Place{
		{Kind: api.BiLabel}, {Kind: api.BiLabel, At: 1}, {Kind: api.BiVar, Node: 1}, {Kind: api.BiVar, Node: 1, At: 1}, {Kind: api.BiArray, Node: 2}, {Kind: api.BiArray, Node: 2, At: 1},
		{Kind: api.BiSwitch, Node: 5}, {Kind: api.BiProc, Node: 7}, {Kind: api.BiFormal, Node: 7}, {Kind: api.BiFormal, Node: 7, At: 1}, {Kind: api.BiLabel, Node: 8},
		{Kind: api.BiProc, Node: 9}, {Kind: api.BiLabel, Node: 11}, {Kind: api.BiLabel, Node: 12}, {Kind: api.BiLabel, Node: 12, At: 1},
	}
	expectPlaces(t, text, want...)
	s := stmtOf(t, text)
	for i, p := range want {
		if name, e := scope.Name(s, p); name != names[i] || e != api.OK {
			t.Errorf("Name of %v = %q, %d; want %q", p, name, e, names[i])
		}
	}
	for _, p := range []api.Place{{}, {Kind: api.BiStandard, Node: -1, At: 8}, {Kind: api.BiStandard, Node: -1, At: -1}, {Kind: api.BiStandard, Node: 0}, {Kind: api.BiLabel, At: 2}, {Kind: api.BiLabel, Node: 1},
		{Kind: api.BiVar, Node: 1, At: 2}, {Kind: api.BiVar, Node: 1, At: -1}, {Kind: api.BiVar, Node: 2}, {Kind: api.BiArray, Node: 3}, {Kind: api.BiSwitch, Node: 5, At: 1}, {Kind: api.BiProc, Node: 7, At: 1},
		{Kind: api.BiFormal, Node: 9}, {Kind: api.BiFormal, Node: 7, At: 2}, {Kind: 8, Node: 1}, {Kind: -1}, {Kind: api.BiVar, Node: 13}, {Kind: api.BiVar, Node: -1}, {Kind: api.BiVar, Node: 1 << 62}} {
		if name, e := scope.Name(s, p); name != "" || e != api.ErrNone {
			t.Errorf("Name of %v = %q, %d", p, name, e)
		}
		if l, e := scope.UsesOf(s, p); len(l) != 0 || e != api.ErrNone {
			t.Errorf("UsesOf %v = %v, %d", p, l, e)
		}
	}
	expectPlaces(t, "begin abs(1) end")
}

// TestUsesOf checks P6.4: what is declared again denotes nothing, and is no error.
func TestUsesOf(t *testing.T) {
	s := stmtOf(t, "begin integer i, i; i := i + abs(i); begin real i; i := abs(1) end; goto i; i: end")
	for _, x := range []struct {
		place api.Place
		want  []int
	}{
		{api.Place{Kind: api.BiVar, Node: 1}, []int{3, 5, 7, 15}}, {api.Place{Kind: api.BiVar, Node: 1, At: 1}, nil}, {api.Place{Kind: api.BiVar, Node: 9}, []int{11}},
		{api.Place{Kind: api.BiLabel, Node: 16}, nil}, {api.Place{Kind: api.BiStandard, Node: -1, At: 5}, []int{6, 12}}, {api.Place{Kind: api.BiStandard, Node: -1, At: 4}, nil},
	} {
		if l, e := scope.UsesOf(s, x.place); e != api.OK || !slices.Equal(l, x.want) {
			t.Errorf("UsesOf %v = %v, %d; want %v", x.place, l, e, x.want)
		}
	}
}

// TestLookup checks P6.5: identifiers that need not occur, and those that are none.
func TestLookup(t *testing.T) {
	s := stmtOf(t, "begin integer i; procedure p(x, i); begin real x; x := 1 end; l: p(1, 2) end")
	for _, x := range []struct {
		node int
		name string
		want api.Place
	}{
		{0, "p", api.Place{}}, {0, "l", api.Place{}}, {1, "l", api.Place{Kind: api.BiLabel, Node: 8}}, {2, "x", api.Place{}}, {2, "i", api.Place{Kind: api.BiVar, Node: 1}},
		{3, "x", api.Place{Kind: api.BiFormal, Node: 2}}, {3, "i", api.Place{Kind: api.BiFormal, Node: 2, At: 1}}, {4, "x", api.Place{Kind: api.BiVar, Node: 4}}, {6, "x", api.Place{Kind: api.BiVar, Node: 4}},
		{6, "l", api.Place{Kind: api.BiLabel, Node: 8}}, {6, "p", api.Place{Kind: api.BiProc, Node: 2}}, {6, "entier", api.Place{Kind: api.BiStandard, Node: -1, At: 7}}, {9, "x", api.Place{}}, {9, "i", api.Place{Kind: api.BiVar, Node: 1}},
		{0, "", api.Place{}}, {6, "", api.Place{}}, {6, "y", api.Place{}}, {6, "begin", api.Place{}}, {6, "X", api.Place{}}, {6, "x ", api.Place{}}, {6, strings.Repeat("x", 17), api.Place{}}, {6, strings.Repeat("x", 1<<20), api.Place{}},
		{-1, "abs", api.Place{}}, {11, "abs", api.Place{}}, {12, "p", api.Place{}}, {-1 << 63, "abs", api.Place{}}, {1<<63 - 1, "abs", api.Place{}}, {2000, "", api.Place{}},
	} {
		want := api.OK
		if x.want.Kind == 0 {
			want = api.ErrNone
		}
		if got, e := scope.Lookup(s, x.node, x.name); got != x.want || e != want {
			t.Errorf("Lookup at %d of %.20q = %v, %d; want %v, %d", x.node, x.name, got, e, x.want, want)
		}
	}
}

// TestVisible checks P6.5: each identifier once, with what it denotes, ascending by the bytes.
func TestVisible(t *testing.T) {
	s := stmtOf(t, "z: begin integer n, abs, n; procedure p(n, b); value b; integer b; begin array z[1: 2]; z9: a: end; n: end")
	standard := func(i int) api.Place { return api.Place{Kind: api.BiStandard, Node: -1, At: i} }
	z := api.Place{Kind: api.BiLabel}
	n, abs, p := api.Place{Kind: api.BiVar, Node: 1}, api.Place{Kind: api.BiVar, Node: 1, At: 1}, api.Place{Kind: api.BiProc, Node: 2}
	formal, b := api.Place{Kind: api.BiFormal, Node: 2}, api.Place{Kind: api.BiFormal, Node: 2, At: 1}
	a, z9, array := api.Place{Kind: api.BiLabel, Node: 7, At: 1}, api.Place{Kind: api.BiLabel, Node: 7}, api.Place{Kind: api.BiArray, Node: 4}
	outer := []api.Place{standard(5), standard(7), standard(4), standard(2), standard(0), standard(1), standard(3), standard(6), z}
	block := []api.Place{abs, standard(7), standard(4), n, standard(2), standard(0), standard(1), standard(3), p, standard(6), z}
	body := []api.Place{abs, b, standard(7), standard(4), formal, standard(2), standard(0), standard(1), standard(3), p, standard(6), z}
	inner := []api.Place{a, abs, b, standard(7), standard(4), formal, standard(2), standard(0), standard(1), standard(3), p, standard(6), array, z9}
	for number, want := range [][]api.Place{outer, block, block, body, inner, body, body, inner, block} {
		if got, e := scope.Visible(s, number); e != api.OK || !slices.Equal(got, want) {
			t.Errorf("Visible at %d = %v, %d; want %v", number, got, e, want)
		}
	}
}

// TestNoSuchPart checks P6.5 and P6.8: numbers of no part.
func TestNoSuchPart(t *testing.T) {
	for text, size := range map[string]int{"": 1, "a": 1, "begin end": 2, example: 17} {
		s := stmtOf(t, text)
		for _, number := range []int{-1 << 63, -2, -1, size, size + 1, 1 << 40} {
			if l, e := scope.Visible(s, number); len(l) != 0 || e != api.ErrNone {
				t.Errorf("Visible(%s, %d) = %v, %d", text, number, l, e)
			}
			if p, e := scope.Lookup(s, number, "abs"); p != (api.Place{}) || e != api.ErrNone {
				t.Errorf("Lookup(%s, %d) = %v, %d", text, number, p, e)
			}
			if n, e := scope.Enclosing(s, number); n != 0 || e != api.ErrNone {
				t.Errorf("Enclosing(%s, %d) = %d, %d", text, number, n, e)
			}
			if n, e := scope.Level(s, number); n != 0 || e != api.ErrNone {
				t.Errorf("Level(%s, %d) = %d, %d", text, number, n, e)
			}
		}
		for number := range size {
			if _, e := scope.Level(s, number); e != api.OK {
				t.Errorf("Level(%s, %d): %d", text, number, e)
			}
		}
	}
}

// TestFree checks P6.6: each identifier once, ascending by the bytes, that of a standard procedure too.
func TestFree(t *testing.T) {
	for _, x := range []struct{ text, want string }{
		{"begin z := b + b1 + b(a[z]); abs(sign); b end", "a b b1 sign z abs"}, {"begin integer abs; abs := abs end", ""}, {"l: goto l", ""}, {"begin l: end", ""},
		{"begin goto l; begin l: end end", "l"}, {"begin integer x; x := y; begin integer y; y := x end end", "y"}, {"begin procedure p(x); x(y); procedure q(y); y(x); p(q) end", "x y"}, {"", ""},
	} {
		want := strings.Fields(x.want)
		slices.Sort(want)
		if got, e := scope.Free(stmtOf(t, x.text)); e != api.OK || !slices.Equal(got, want) {
			t.Errorf("Free(%s) = %v, %d; want %v", x.text, got, e, want)
		}
	}
}

// TestCheck checks which problems there are, and their order: P6.7.
func TestCheck(t *testing.T) {
	twice := func(node int, name string) api.Problem {
		return api.Problem{Kind: api.PrTwice, Node: node, Name: name}
	}
	unknown := func(node int, name string) api.Problem {
		return api.Problem{Kind: api.PrUnknown, Node: node, Name: name}
	}
	bound := func(node int, name string) api.Problem {
		return api.Problem{Kind: api.PrBound, Node: node, Name: name}
	}
	expectProblems(t, "begin end")
	// Of one part the declarations come first, in their order, and then the occurrence.
	expectProblems(t, "a: b: a: b: a: q", twice(0, "a"), twice(0, "b"), twice(0, "a"), unknown(0, "q"))
	expectProblems(t, "begin integer i, k, k, i, i; real k; array k, i[1: 2]; l: m: x: l(m); x: m: end",
		twice(1, "k"), twice(1, "i"), twice(1, "i"), twice(2, "k"), twice(3, "k"), twice(3, "i"), api.Problem{Kind: api.PrKind, Node: 6, Name: "l"}, twice(8, "x"), twice(8, "m"))
	// Labels are declared in the scope of their block, behind its declarations, or of their list.
	expectProblems(t, "begin procedure l;; integer i; l: i: begin i: l: end end", twice(4, "l"), twice(4, "i"))
	expectProblems(t, "begin l:; l: end", twice(2, "l"))
	expectProblems(t, "begin l: if true then l: else l: begin l: end; l: end", twice(6, "l"))
	expectProblems(t, "begin l: for i := 1 do l:; l: end", unknown(2, "i"), twice(6, "l"))
	// Scopes within others can declare the same.
	expectProblems(t, "a: begin integer a, abs; procedure p(a, p, abs); a: begin real a; array abs[1: 2]; end; end")
	// In bounds the block's own identifiers are a problem of their own, whether they are known outside or not; others are as everywhere.
	expectProblems(t, "begin integer n; array a[n: a, l: m, p: q(1)]; procedure p;; l: end", bound(3, "n"), bound(4, "a"), bound(5, "l"), unknown(6, "m"), bound(7, "p"), unknown(8, "q"))
	expectProblems(t, "begin integer n; begin array a[n: m]; integer n; m: end; begin array b[n: a]; end end", bound(4, "n"), bound(5, "m"), unknown(11, "a"))
	expectProblems(t, "begin integer n, m; array a[1: 2]; begin array b[a[n]: n[1] + a[c(m)]]; procedure c;; m: end end",
		api.Problem{Kind: api.PrKind, Node: 10, Name: "n"}, bound(13, "c"), bound(14, "m"))
	expectProblems(t, "begin integer abs; array a[abs(1): sign(abs)]; end", bound(3, "abs"), bound(6, "abs"))
	expectProblems(t, "begin integer abs; begin array a[abs(1): outinteger]; end end", api.Problem{Kind: api.PrKind, Node: 4, Name: "abs"}, api.Problem{Kind: api.PrKind, Node: 6, Name: "outinteger"})
	// A bound of a block within is not one of the block around, even if the block is in a procedure.
	expectProblems(t, "begin integer n; procedure p; begin array a[1: n]; end; array b[1: 2]; end")
	// Parts that are no occurrences have no name.
	expectProblems(t, "begin goto 1; goto - 1; x := \"a\" end", api.Problem{Kind: api.PrKind, Node: 2}, api.Problem{Kind: api.PrKind, Node: 4}, unknown(7, "x"), api.Problem{Kind: api.PrKind, Node: 8})
	// There is at most one problem of an occurrence, but each part has its own.
	expectProblems(t, "goto f(\"a\" + l, m[1])", unknown(1, "f"), api.Problem{Kind: api.PrKind, Node: 3}, unknown(4, "l"), unknown(5, "m"))
}

// TestLevels checks P6.8: procedures within one another, and bounds.
func TestLevels(t *testing.T) {
	s := stmtOf(t, "begin procedure p; begin integer i; real procedure q; begin array a[1: i]; q := 1 end; p end; begin begin end end end")
	levels := []int{0, 1, 2, 3, 3, 4, 5, 4, 4, 5, 5, 5, 3, 1, 1, 1}
	procs := []int{-1, -1, 1, 1, 1, 4, 4, 4, 4, 4, 4, 4, 1, -1, -1, -1}
	for number := range levels {
		if got, e := scope.Level(s, number); e != api.OK || got != levels[number] {
			t.Errorf("Level at %d = %d, %d; want %d", number, got, e, levels[number])
		}
		if got, e := scope.Enclosing(s, number); e != api.OK || got != procs[number] {
			t.Errorf("Enclosing at %d = %d, %d; want %d", number, got, e, procs[number])
		}
	}
}
