package tree_test

import (
	"slices"
	"testing"

	"manorboy/api"
	"manorboy/tree"
)

// nested returns n compound statements within one another, the innermost one with an empty statement.
func nested(n int) api.Stmt {
	s := empty()
	for range n {
		s = list(s)
	}
	return s
}

// row returns a compound statement of the size n, of empty statements.
func row(n int) api.Stmt { return list(slices.Repeat([]api.Stmt{empty()}, n-1)...) }

// chain returns a valid expression of the depth n.
func chain(n int) api.Exp {
	e := name("a")
	for range n - 1 {
		e = one(api.OpNot, e)
	}
	return e
}

func wantSizes(t *testing.T, s api.Stmt, size, depth int) {
	t.Helper()
	if n := tree.Size(s); n != size {
		t.Errorf("Size(%s) = %d; want %d", short(s), n, size)
	}
	if n := tree.Depth(s); n != depth {
		t.Errorf("Depth(%s) = %d; want %d", short(s), n, depth)
	}
}

func wantSizesOfExp(t *testing.T, e api.Exp, size, depth int) {
	t.Helper()
	if n := tree.SizeExp(e); n != size {
		t.Errorf("SizeExp(%s) = %d; want %d", short(e), n, size)
	}
	if n := tree.DepthExp(e); n != depth {
		t.Errorf("DepthExp(%s) = %d; want %d", short(e), n, depth)
	}
}

// P4.18: rows.
func TestRows(t *testing.T) {
	for _, n := range []int{2, 3, 4, 100, 1999, 2000} {
		wantSizes(t, row(n), n, 2)
		wantCheck(t, stmtPart(row(n)), api.OK)
	}
	wantSizes(t, row(1), 1, 1)
	wantCheck(t, stmtPart(row(1)), api.ErrArg)
	for _, n := range []int{2001, 2002, 5000, 100000} {
		wantSizes(t, row(n), 0, 0)
		wantCheck(t, stmtPart(row(n)), api.ErrLimit)
	}
}

// P4.18: nests.
func TestNests(t *testing.T) {
	for n := range 60 {
		wantSizes(t, nested(n), n+1, n+1)
		wantCheck(t, stmtPart(nested(n)), api.OK)
	}
	for _, n := range []int{60, 61, 62, 100, 5000} {
		wantSizes(t, nested(n), 0, 0)
		wantCheck(t, stmtPart(nested(n)), api.ErrLimit)
	}
}

// P4.2: the sizes of the chapter's examples, and of other parts.
func TestSizes(t *testing.T) {
	a := name("a")
	third := two(api.OpSub, a, two(api.OpSub, name("b"), name("c")))
	wantSizesOfExp(t, third, 5, 3)
	wantSizes(t, assign(third, name("x")), 7, 4)
	wantSizes(t, empty(), 1, 1)
	wantSizes(t, empty("l", "m"), 3, 1)
	wantSizes(t, list(empty("l"), empty()), 4, 2)
	wantSizes(t, block(decls(variables(1, "v", "w")), empty()), 5, 2)
	wantSizes(t, block(decls(arrays(1, []string{"v", "w"}, a, a, a, third)), empty()), 13, 5)
	wantSizes(t, block(decls(proc(0, "p", jump(a), formal("x", 0, 0), formal("y", 0, 0))), empty()), 8, 4)
	wantSizes(t, loop(index("a", num(1)), jump(a), once(a), step(a, a, third)), 1+2+2+2+8, 5)
	wantSizes(t, labelled(when(a, empty("l"), empty()), "m", "n", "o"), 8, 2)
	wantSizesOfExp(t, a, 1, 1)
	wantSizesOfExp(t, call("f", a, third, quoted("x")), 8, 4)
	wantSizesOfExp(t, choice(a, a, one(api.OpNeg, a)), 5, 3)
}

// P4.2: the sizes of parts that are not valid. The children of all fields count, whether or not the Kind uses them.
func TestSizesOfInvalidParts(t *testing.T) {
	a := name("a")
	wantSizes(t, api.Stmt{}, 1, 1)
	wantSizesOfExp(t, api.Exp{}, 1, 1)
	wantSizesOfExp(t, api.Exp{Kind: api.ExInt, Args: []api.Exp{{}, call("", a)}}, 4, 3)
	wantSizesOfExp(t, api.Exp{Kind: 99, Op: -1, N: -5, Text: "\x00", Args: []api.Exp{a}}, 2, 2)
	s := api.Stmt{
		Labels:  []string{"", "1"},
		Text:    "x",
		Targets: []api.Exp{a, call("f")},
		Exps:    []api.Exp{{}, {}, {}},
		For:     []api.Elem{{}, {Kind: 9, Exps: []api.Exp{a}}},
		Decls:   []api.Decl{{Names: []string{"", "", ""}, Formals: make([]api.Formal, 20)}, {Kind: 7, Exps: []api.Exp{a}, Body: []api.Stmt{empty(), list(nested(3))}}},
		Body:    []api.Stmt{{}, {}},
	}
	wantSizes(t, s, 1+2+2+3+3+(1+23)+(1+1+1+5)+2, 7)
	for kind := range 12 {
		s.Kind = kind
		wantSizes(t, s, 45, 7)
		wantCheck(t, stmtPart(s), api.ErrArg)
	}
}

// P4.2 and P4.1: the size 2000 is the greatest one, whatever it is made of, and a size or depth beyond the limits comes before what is not valid.
func TestGreatestSizes(t *testing.T) {
	words := func(n int) []string { return slices.Repeat([]string{"x"}, n) }
	for _, x := range []struct {
		s     func(n int) api.Stmt
		base  int
		valid bool
	}{
		{func(n int) api.Stmt { return empty(words(n)...) }, 1, true},
		{func(n int) api.Stmt { return empty(make([]string, n)...) }, 1, false},
		{func(n int) api.Stmt { return list(empty(), empty(words(n)...)) }, 3, true},
		{func(n int) api.Stmt { return assign(num(1), slices.Repeat([]api.Exp{name("x")}, n)...) }, 2, true},
		{func(n int) api.Stmt { return api.Stmt{Kind: api.StGoto, Exps: slices.Repeat([]api.Exp{num(1)}, n)} }, 1, false},
		{func(n int) api.Stmt { return loop(name("x"), empty(), make([]api.Elem, n)...) }, 3, false},
		{func(n int) api.Stmt { return block(make([]api.Decl, n), empty()) }, 2, false},
		{func(n int) api.Stmt { return block(decls(variables(1, words(n)...)), empty()) }, 3, true},
		{func(n int) api.Stmt { return block(decls(arrays(1, words(n), num(1), num(2))), empty()) }, 5, true},
		{func(n int) api.Stmt { return block(decls(proc(1, "p", empty(), make([]api.Formal, n)...)), empty()) }, 5, false},
		{func(n int) api.Stmt {
			return block(decls(switches("s", slices.Repeat([]api.Exp{num(1)}, n)...)), empty())
		}, 4, true},
		{func(n int) api.Stmt { return api.Stmt{Kind: api.StEmpty, Body: slices.Repeat([]api.Stmt{empty()}, n)} }, 1, false},
		{func(n int) api.Stmt {
			return jump(api.Exp{Kind: api.ExCall, Text: "f", Args: slices.Repeat([]api.Exp{num(1)}, n)})
		}, 2, false},
	} {
		inside, outside := x.s(2000-x.base), x.s(2001-x.base)
		want := api.ErrArg
		if x.valid {
			want = api.OK
		}
		wantCheck(t, stmtPart(inside), want)
		if n := tree.Size(inside); n != 2000 {
			t.Errorf("Size(%s) = %d; want 2000", short(inside), n)
		}
		wantCheck(t, stmtPart(outside), api.ErrLimit)
		wantSizes(t, outside, 0, 0)
	}
}

// P4.2 and P4.1: the depth 60 is the greatest one, whatever it is made of.
func TestGreatestDepths(t *testing.T) {
	for _, n := range []int{1, 2, 59, 60} {
		wantSizesOfExp(t, chain(n), n, n)
		wantCheck(t, expPart(chain(n)), api.OK)
	}
	wantCheck(t, expPart(chain(61)), api.ErrLimit)
	wantSizesOfExp(t, chain(61), 0, 0)
	wantSizesOfExp(t, chain(10000), 0, 0)
	for _, x := range []struct {
		s    func(e api.Exp) api.Stmt
		base int
	}{
		{jump, 1},
		{func(e api.Exp) api.Stmt { return assign(num(1), index("a", e)) }, 2},
		{func(e api.Exp) api.Stmt { return loop(name("x"), empty(), step(num(1), num(2), e)) }, 2},
		{func(e api.Exp) api.Stmt { return block(decls(arrays(1, []string{"v"}, num(1), e)), empty()) }, 2},
		{func(e api.Exp) api.Stmt { return block(decls(proc(1, "p", jump(e))), empty()) }, 3},
	} {
		wantCheck(t, stmtPart(x.s(chain(60-x.base))), api.OK)
		if n := tree.Depth(x.s(chain(60 - x.base))); n != 60 {
			t.Errorf("Depth = %d; want 60", n)
		}
		wantCheck(t, stmtPart(x.s(chain(61-x.base))), api.ErrLimit)
		wantSizes(t, x.s(chain(61-x.base)), 0, 0)
	}
	deep := api.Exp{Kind: api.ExInt, Args: []api.Exp{chain(60)}}
	wantCheck(t, expPart(deep), api.ErrLimit)
	deep.Args[0] = chain(59)
	wantCheck(t, expPart(deep), api.ErrArg)
	if e := tree.CheckDecl(proc(0, "p", nested(58))); e != api.OK {
		t.Errorf("CheckDecl: error %d", e)
	}
	if e := tree.CheckDecl(proc(0, "p", nested(59))); e != api.ErrLimit {
		t.Errorf("CheckDecl: error %d", e)
	}
}

// P4.2 and P4.10: sizes and depths of parts made by chance are those of their children.
func TestSizesOfMany(t *testing.T) {
	m := newMaker(3)
	for _, s := range m.stmts(300) {
		p := stmtPart(s)
		depth := depthOf(p)
		wantSizes(t, s, sizeOf(p), depth)
		paths, _ := tree.Paths(s)
		sum := 1 + len(s.Labels)
		for _, path := range paths {
			part, e := tree.At(s, path)
			if d := depthOf(part); e != api.OK || d > depth-len(path) {
				t.Errorf("the part %v of %v has the depth %d, the whole %d", path, s, d, depth)
			}
			if part.Kind == api.PaExp {
				wantSizesOfExp(t, part.Exp, sizeOf(part), depthOf(part))
			}
			if len(path) == 1 {
				sum += sizeOf(part)
			}
		}
		if sum != tree.Size(s) {
			t.Errorf("Size(%v) = %d; that of the children is %d", s, tree.Size(s), sum)
		}
	}
	for _, e := range m.exps(300) {
		wantSizesOfExp(t, e, sizeOf(expPart(e)), depthOf(expPart(e)))
	}
}

// endless returns parts that contain themselves, or that have so many parts, by sharing memory, that nobody can count them.
func endless() (stmts []api.Stmt, exps []api.Exp, ds []api.Decl) {
	args := make([]api.Exp, 1)
	args[0] = api.Exp{Kind: api.ExOne, Op: api.OpNeg, Args: args}
	both := []api.Exp{name("a"), name("a")}
	for range 58 {
		e := api.Exp{Kind: api.ExTwo, Op: api.OpAdd, Args: both}
		both = []api.Exp{e, e}
	}
	exps = []api.Exp{args[0], {Kind: api.ExTwo, Op: api.OpAdd, Args: both}, {Kind: api.ExCall, Text: "f", Args: make([]api.Exp, 1<<20)}}
	body := make([]api.Stmt, 2)
	body[0] = api.Stmt{Kind: api.StList, Body: body}
	body[1] = body[0]
	inner := make([]api.Stmt, 1)
	d := proc(0, "p", empty())
	d.Body = inner
	inner[0] = block([]api.Decl{d}, empty())
	elems := make([]api.Elem, 1)
	elems[0] = once(args[0])
	stmts = []api.Stmt{body[0], inner[0], jump(exps[0]), jump(exps[1]), assign(exps[1], name("x")), loop(name("x"), empty(), elems...), list(make([]api.Stmt, 1<<20)...), empty(make([]string, 1<<20)...)}
	ds = []api.Decl{d, switches("s", exps[1]), variables(1, make([]string, 1<<20)...), {Formals: make([]api.Formal, 1<<20)}}
	return stmts, exps, ds
}

// P4.1 to P4.9: parts without an end are beyond the limits, for all functions.
func TestEndlessParts(t *testing.T) {
	stmts, exps, ds := endless()
	for _, s := range stmts {
		wantErrors(t, s, api.ErrLimit)
		wantSizes(t, s, 0, 0)
		if tree.Same(s, s) || tree.Same(s, empty()) || tree.Same(empty(), s) {
			t.Error("Same of a statement beyond the limits")
		}
	}
	for _, e := range exps {
		wantErrorsOfExp(t, e, api.ErrLimit)
		wantSizesOfExp(t, e, 0, 0)
		if tree.SameExp(e, e) || tree.SameExp(e, num(1)) || tree.SameExp(num(1), e) {
			t.Error("SameExp of an expression beyond the limits")
		}
	}
	for _, d := range ds {
		wantErrorsOfDecl(t, d, api.ErrLimit)
	}
}

// wantErrors reports functions that do not return an error, and nothing beside it, for a statement.
func wantErrors(t *testing.T, s api.Stmt, want api.Errno) {
	t.Helper()
	copied, e1 := tree.Copy(s)
	paths, e2 := tree.Paths(s)
	number, e3 := tree.Number(s, nil)
	_, e4 := tree.Number(s, []int{5, -1})
	part, e5 := tree.At(s, nil)
	_, e6 := tree.At(s, []int{5, -1})
	with, e7 := tree.With(s, nil, stmtPart(empty()))
	_, e8 := tree.With(s, []int{5, -1}, api.Part{Kind: 9, Stmt: s})
	owns, e9 := tree.Owns(s)
	names, e10 := tree.Names(s)
	text, e11 := tree.Print(s)
	for i, e := range []api.Errno{tree.Check(s), tree.Program(s), e1, e2, e3, e4, e5, e6, e7, e8, e9, e10, e11} {
		if e != want {
			t.Errorf("function %d of %s: error %d; want %d", i, short(s), e, want)
		}
	}
	if !equal(copied, api.Stmt{}) || len(paths) > 0 || number != 0 || !equal(part, api.Part{}) || !equal(with, api.Stmt{}) || len(owns) > 0 || len(names) > 0 || text != "" {
		t.Errorf("a result beside an error of %s", short(s))
	}
}

func wantErrorsOfExp(t *testing.T, e api.Exp, want api.Errno) {
	t.Helper()
	copied, e1 := tree.CopyExp(e)
	names, e2 := tree.NamesExp(e)
	text, e3 := tree.PrintExp(e)
	for i, err := range []api.Errno{tree.CheckExp(e), e1, e2, e3} {
		if err != want {
			t.Errorf("function %d of %s: error %d; want %d", i, short(e), err, want)
		}
	}
	if !equal(copied, api.Exp{}) || len(names) > 0 || text != "" {
		t.Errorf("a result beside an error of %s", short(e))
	}
}

func wantErrorsOfDecl(t *testing.T, d api.Decl, want api.Errno) {
	t.Helper()
	text, e := tree.PrintDecl(d)
	if c := tree.CheckDecl(d); c != want || e != want || text != "" {
		t.Errorf("CheckDecl(%s): error %d; PrintDecl: %.20q, %d; want %d", short(d), c, text, e, want)
	}
}

// P4.1 to P4.9: the error of Check comes first.
func TestErrorsOfCheck(t *testing.T) {
	for _, s := range []api.Stmt{{}, empty("1"), list(), jump(num(-1)), when(num(1), when(num(1), empty())), block(decls(variables(0, "v")), empty()), {Kind: api.StEmpty, Text: "x"}} {
		wantErrors(t, s, api.ErrArg)
	}
	for _, s := range []api.Stmt{row(2001), nested(60), list(api.Stmt{Kind: 77}, row(2000)), jump(chain(60)), list(nested(60), jump(num(-1)))} {
		wantErrors(t, s, api.ErrLimit)
	}
	for _, e := range []api.Exp{{}, num(-1), name("if"), two(api.OpAdd, num(1), num(-1)), call("f")} {
		wantErrorsOfExp(t, e, api.ErrArg)
	}
	for _, e := range []api.Exp{chain(61), call("f", api.Exp{}, chain(60)), {Args: make([]api.Exp, 2000)}} {
		wantErrorsOfExp(t, e, api.ErrLimit)
	}
	for _, d := range []api.Decl{{}, variables(0, "v"), proc(0, "p", jump(num(-1)))} {
		wantErrorsOfDecl(t, d, api.ErrArg)
	}
	for _, d := range []api.Decl{proc(0, "p", nested(59)), variables(0, make([]string, 2000)...), switches("s", chain(60))} {
		wantErrorsOfDecl(t, d, api.ErrLimit)
	}
}
