package tree_test

import (
	"slices"
	"testing"

	"manorboy/api"
	"manorboy/tree"
)

// sample is a statement with all kinds of parts.
func sample() api.Stmt {
	a := name("a")
	return labelled(block(
		decls(
			own(arrays(api.TyReal, []string{"v", "w"}, num(1), two(api.OpAdd, a, num(2)))),
			proc(api.TyInt, "p", list(assign(index("v", a), name("p")), own1()), byValue(formal("a", api.SpVar, api.TyInt))),
			switches("s", name("l"), choice(a, name("l"), index("s", num(1)))),
		),
		loop(index("v", num(1)), invoke("p", one(api.OpNeg, a)), once(num(3)), step(num(1), num(2), call("f", a)), while(a, truth(true))),
		when(a, empty("m"), jump(name("l"))),
	), "l", "k")
}

// own1 returns a block with a declaration with Own.
func own1() api.Stmt {
	return block(decls(variables(api.TyInt, "x"), own(variables(api.TyBool, "y", "z"))), empty())
}

func wantPaths(t *testing.T, s api.Stmt, want [][]int) {
	t.Helper()
	paths, e := tree.Paths(s)
	if e != api.OK || !slices.EqualFunc(paths, want, slices.Equal) {
		t.Errorf("Paths(%s) = %v, %d; want %v", short(s), paths, e, want)
	}
}

func wantPart(t *testing.T, s api.Stmt, path []int, want api.Part) {
	t.Helper()
	if part, e := tree.At(s, path); e != api.OK || !equal(part, want) {
		t.Errorf("At(%s, %v) = %v, %d; want %v", short(s), path, part, e, want)
	}
}

func wantNumber(t *testing.T, s api.Stmt, path []int, want int) {
	t.Helper()
	if n, e := tree.Number(s, path); e != api.OK || n != want {
		t.Errorf("Number(%s, %v) = %d, %d; want %d", short(s), path, n, e, want)
	}
}

// P4.5: the chapter's example.
func TestPathsOfTheExample(t *testing.T) {
	inner := two(api.OpSub, name("b"), name("c"))
	e := two(api.OpSub, name("a"), inner)
	s := assign(e, name("x"))
	wantPaths(t, s, [][]int{{}, {0}, {1}, {1, 0}, {1, 1}, {1, 1, 0}, {1, 1, 1}})
	for i, path := range [][]int{{1}, {1, 0}, {1, 1}, {1, 1, 0}, {1, 1, 1}} {
		wantNumber(t, s, path, 2+i)
		wantPart(t, s, path, expPart([]api.Exp{e, name("a"), inner, name("b"), name("c")}[i]))
	}
	wantNumber(t, s, nil, 0)
	wantNumber(t, s, []int{}, 0)
	wantNumber(t, s, []int{0}, 1)
	wantPart(t, s, nil, stmtPart(s))
	wantPart(t, s, []int{0}, expPart(name("x")))
}

// P4.5: the children of all kinds of parts, in their order.
func TestPathsOfEachKind(t *testing.T) {
	s := sample()
	wantPaths(t, s, [][]int{
		{},
		{0}, {0, 0}, {0, 1}, {0, 1, 0}, {0, 1, 1},
		{1}, {1, 0}, {1, 0, 0}, {1, 0, 0, 0}, {1, 0, 0, 1}, {1, 0, 0, 1, 0}, {1, 0, 1}, {1, 0, 1, 0}, {1, 0, 1, 1}, {1, 0, 1, 2},
		{2}, {2, 0}, {2, 1}, {2, 1, 0}, {2, 1, 1}, {2, 1, 2}, {2, 1, 2, 0},
		{3}, {3, 0}, {3, 0, 0}, {3, 1}, {3, 1, 0}, {3, 2}, {3, 2, 0}, {3, 2, 1}, {3, 2, 2}, {3, 2, 2, 0}, {3, 3}, {3, 3, 0}, {3, 3, 1}, {3, 4}, {3, 4, 0}, {3, 4, 0, 0},
		{4}, {4, 0}, {4, 1}, {4, 2}, {4, 2, 0},
	})
	wantPart(t, s, []int{1}, declPart(s.Decls[1]))
	wantPart(t, s, []int{1, 0, 1}, stmtPart(own1()))
	wantPart(t, s, []int{1, 0, 1, 1}, declPart(own(variables(api.TyBool, "y", "z"))))
	wantPart(t, s, []int{3, 0}, expPart(index("v", num(1))))
	wantPart(t, s, []int{3, 1}, elemPart(once(num(3))))
	wantPart(t, s, []int{3, 2}, elemPart(step(num(1), num(2), call("f", name("a")))))
	wantPart(t, s, []int{3, 3, 1}, expPart(truth(true)))
	wantPart(t, s, []int{4, 1}, stmtPart(empty("m")))
	wantPaths(t, empty("l"), [][]int{{}})
	two := assign(num(7), name("x"), index("y", num(8)))
	wantPart(t, two, []int{1}, expPart(index("y", num(8))))
	wantPart(t, two, []int{1, 0}, expPart(num(8)))
	wantPart(t, two, []int{2}, expPart(num(7)))
}

// P4.5: paths of no part.
func TestPathsOfNoPart(t *testing.T) {
	s := sample()
	for _, path := range [][]int{{5}, {-1}, {0, 2}, {0, -1}, {0, 0, 0}, {4, 3}, {4, 2, 1}, {4, 2, 0, 0}, {1 << 62}, {-1 << 63}, {1 << 32}, {3, 2, 2, 0, 0}, {1, 0, 0, 0, 0, 0}, make([]int, 100), {0, 1, 1, 0, 0, 0}, {4, 1, 0}, {3, 5}} {
		if n, e := tree.Number(s, path); n != 0 || e != api.ErrNone {
			t.Errorf("Number(s, %v) = %d, %d", path, n, e)
		}
		if p, e := tree.At(s, path); !equal(p, api.Part{}) || e != api.ErrNone {
			t.Errorf("At(s, %v) = %v, %d", path, p, e)
		}
		for _, p := range []api.Part{stmtPart(empty()), expPart(num(1)), expPart(num(-1)), {}, {Kind: 9}, {Kind: api.PaExp, Stmt: s}} {
			if other, e := tree.With(s, path, p); !equal(other, api.Stmt{}) || e != api.ErrNone {
				t.Errorf("With(s, %v, %v) = %v, %d", path, p, other, e)
			}
		}
	}
	for _, path := range [][]int{{0}, {0, 0}, {1}} {
		if _, e := tree.At(empty("l", "m"), path); e != api.ErrNone {
			t.Errorf("At(empty, %v): error %d", path, e)
		}
	}
}

// P4.5 and P4.11: parts made by chance.
func TestPathsOfMany(t *testing.T) {
	m := newMaker(5)
	for _, s := range m.stmts(250) {
		whole := stmtPart(s)
		want := pathsOf(whole)
		wantPaths(t, s, want)
		paths, _ := tree.Paths(s)
		if !slices.IsSortedFunc(paths, slices.Compare) {
			t.Errorf("the paths of %v are not sorted", s)
		}
		outside := 0
		for number, path := range paths {
			if number > 0 && slices.Compare(paths[number-1], path) >= 0 {
				t.Errorf("%v behind %v", path, paths[number-1])
			}
			if len(path) > 0 && !slices.ContainsFunc(paths, func(p []int) bool { return slices.Equal(p, path[:len(path)-1]) }) {
				t.Errorf("no path ahead of the last index of %v", path)
			}
			p, _ := partAt(whole, path)
			wantNumber(t, s, path, number)
			wantPart(t, s, path, p)
			outside += ownSizeOf(p) - 1
			wantChildren(t, s, path)
		}
		if len(paths) != tree.Size(s)-outside {
			t.Errorf("%d paths of a statement of the size %d", len(paths), tree.Size(s))
		}
	}
}

// wantChildren reports children that At does not return for a path and an index.
func wantChildren(t *testing.T, s api.Stmt, path []int) {
	t.Helper()
	part, _ := tree.At(s, path)
	children := kids(part)
	for i, child := range children {
		wantPart(t, s, append(slices.Clone(path), i), child)
	}
	for _, i := range []int{-1, len(children), len(children) + 1} {
		if _, e := tree.At(s, append(slices.Clone(path), i)); e != api.ErrNone {
			t.Errorf("At(s, %v and %d): error %d", path, i, e)
		}
	}
}

// P4.5: the path can be any of those that Paths returns, at the limits, too.
func TestPathsAtTheLimits(t *testing.T) {
	paths, e := tree.Paths(nested(59))
	if e != api.OK || len(paths) != 60 || len(paths[59]) != 59 {
		t.Errorf("%d paths, %d", len(paths), e)
	}
	wantPart(t, nested(59), paths[59], stmtPart(empty()))
	wantPart(t, nested(59), paths[20], stmtPart(nested(39)))
	paths, e = tree.Paths(row(2000))
	if e != api.OK || len(paths) != 2000 || !slices.Equal(paths[1999], []int{1998}) {
		t.Errorf("%d paths, %d", len(paths), e)
	}
	wantNumber(t, row(2000), []int{1998}, 1999)
	if _, e := tree.Number(row(2000), []int{1999}); e != api.ErrNone {
		t.Errorf("error %d", e)
	}
}

func wantWith(t *testing.T, s api.Stmt, path []int, p api.Part, want api.Stmt, wantErr api.Errno) {
	t.Helper()
	if other, e := tree.With(s, path, p); e != wantErr || !equal(other, want) {
		t.Errorf("With(%s, %v, %s) = %s, %d; want %s, %d", short(s), path, short(p), short(other), e, short(want), wantErr)
	}
}

// P4.6: parts of all kinds.
func TestWith(t *testing.T) {
	a := name("a")
	s := assign(two(api.OpSub, a, num(1)), name("x"))
	wantWith(t, s, nil, stmtPart(empty("l")), empty("l"), api.OK)
	wantWith(t, s, []int{}, stmtPart(list(s)), list(s), api.OK)
	wantWith(t, s, []int{0}, expPart(index("y", a)), assign(two(api.OpSub, a, num(1)), index("y", a)), api.OK)
	wantWith(t, s, []int{1}, expPart(quoted("q")), assign(quoted("q"), name("x")), api.OK)
	wantWith(t, s, []int{1, 1}, expPart(chain(3)), assign(two(api.OpSub, a, chain(3)), name("x")), api.OK)
	s = loop(name("x"), empty(), once(a), while(a, a))
	wantWith(t, s, []int{2}, elemPart(step(a, num(1), num(2))), loop(name("x"), empty(), once(a), step(a, num(1), num(2))), api.OK)
	wantWith(t, s, []int{2, 1}, expPart(num(5)), loop(name("x"), empty(), once(a), while(a, num(5))), api.OK)
	wantWith(t, s, []int{3}, stmtPart(when(a, empty())), loop(name("x"), when(a, empty()), once(a), while(a, a)), api.OK)
	s = block(decls(switches("s", a), variables(1, "v")), empty())
	wantWith(t, s, []int{0}, declPart(own(variables(2, "v", "w"))), block(decls(own(variables(2, "v", "w")), variables(1, "v")), empty()), api.OK)
	wantWith(t, s, []int{0, 0}, expPart(num(2)), block(decls(switches("s", num(2)), variables(1, "v")), empty()), api.OK)
	wantWith(t, s, []int{2}, stmtPart(s), block(decls(switches("s", a), variables(1, "v")), s), api.OK)
}

// P4.6: the errors, and their order.
func TestErrorsOfWith(t *testing.T) {
	a := name("a")
	s := block(decls(switches("s", a)), loop(name("x"), empty(), once(a)), when(a, empty(), empty()))
	bad := empty("1")
	for _, x := range []struct {
		path []int
		p    api.Part
		want api.Errno
	}{
		// The kinds.
		{nil, expPart(a), api.ErrKind}, {nil, api.Part{}, api.ErrKind}, {nil, api.Part{Kind: 5}, api.ErrKind}, {nil, api.Part{Stmt: empty()}, api.ErrKind}, {nil, declPart(variables(0)), api.ErrKind}, {[]int{0}, stmtPart(bad), api.ErrKind}, {[]int{0, 0}, elemPart(once(a)), api.ErrKind}, {[]int{1, 1}, expPart(a), api.ErrKind},
		{[]int{1, 1}, api.Part{Kind: api.PaExp, Stmt: bad, Elem: once(a)}, api.ErrKind}, {[]int{2, 0}, api.Part{Kind: -1, Exp: a}, api.ErrKind}, {[]int{2, 0}, api.Part{Kind: 1 << 40, Exp: a}, api.ErrKind},
		// Fields that do not belong to the kind.
		{nil, api.Part{Kind: api.PaStmt, Stmt: empty(), Decl: api.Decl{Own: true}}, api.ErrArg}, {nil, api.Part{Kind: api.PaStmt, Stmt: empty(), Elem: api.Elem{Kind: 1}}, api.ErrArg}, {nil, api.Part{Kind: api.PaStmt, Stmt: empty(), Exp: num(0)}, api.ErrArg},
		{[]int{0}, api.Part{Kind: api.PaDecl, Decl: variables(1, "v"), Stmt: api.Stmt{Text: "x"}}, api.ErrArg}, {[]int{1, 1}, api.Part{Kind: api.PaElem, Elem: once(a), Exp: api.Exp{N: 1}}, api.ErrArg}, {[]int{2, 0}, api.Part{Kind: api.PaExp, Exp: a, Elem: api.Elem{Exps: []api.Exp{a}}}, api.ErrArg},
		{nil, api.Part{Kind: api.PaStmt, Stmt: nested(60), Decl: variables(0)}, api.ErrArg}, {nil, api.Part{Kind: api.PaStmt, Stmt: row(2001), Exp: api.Exp{Real: number("1.0").Real}}, api.ErrArg},
		// The result.
		{nil, stmtPart(bad), api.ErrArg}, {nil, api.Part{Kind: api.PaStmt}, api.ErrArg}, {[]int{0}, declPart(variables(0, "v")), api.ErrArg}, {[]int{1, 0}, expPart(num(1)), api.ErrArg}, {[]int{1, 0}, expPart(call("f", a)), api.ErrArg}, {[]int{1, 1}, elemPart(api.Elem{Kind: api.FeOnce}), api.ErrArg}, {[]int{2, 0}, expPart(num(-1)), api.ErrArg},
		{[]int{2, 1}, stmtPart(when(a, empty())), api.ErrArg}, {[]int{2, 1}, stmtPart(loop(a, empty(), once(a))), api.ErrArg},
		{nil, stmtPart(row(2001)), api.ErrLimit}, {[]int{2, 1}, stmtPart(row(1989)), api.ErrLimit}, {[]int{2, 2}, stmtPart(nested(58)), api.ErrLimit}, {[]int{2, 1, 0}, expPart(a), api.ErrNone},
		{[]int{2, 1}, stmtPart(list(bad, row(1986))), api.ErrLimit}, {[]int{0, 0}, expPart(chain(59)), api.ErrLimit},
	} {
		wantWith(t, s, x.path, x.p, api.Stmt{}, x.want)
	}
	wantWith(t, s, []int{2, 1}, stmtPart(row(1988)), block(decls(switches("s", a)), loop(name("x"), empty(), once(a)), when(a, row(1988), empty())), api.OK)
	wantWith(t, s, []int{2, 1}, stmtPart(list(bad, row(1985))), api.Stmt{}, api.ErrArg)
}

// P4.6: parts at the limits.
func TestWithAtTheLimits(t *testing.T) {
	a := name("a")
	s := list(empty(), jump(a))
	wantWith(t, s, []int{0}, stmtPart(row(1997)), list(row(1997), jump(a)), api.OK)
	wantWith(t, s, []int{0}, stmtPart(row(1998)), api.Stmt{}, api.ErrLimit)
	wantWith(t, s, []int{0}, stmtPart(nested(58)), list(nested(58), jump(a)), api.OK)
	wantWith(t, s, []int{0}, stmtPart(nested(59)), api.Stmt{}, api.ErrLimit)
	wantWith(t, s, []int{1, 0}, expPart(chain(58)), list(empty(), jump(chain(58))), api.OK)
	wantWith(t, s, []int{1, 0}, expPart(chain(59)), api.Stmt{}, api.ErrLimit)
	stmts, exps, ds := endless()
	for _, other := range stmts {
		wantWith(t, s, nil, stmtPart(other), api.Stmt{}, api.ErrLimit)
		wantWith(t, s, []int{0}, stmtPart(other), api.Stmt{}, api.ErrLimit)
		wantWith(t, s, []int{1, 0}, api.Part{Kind: api.PaExp, Exp: a, Stmt: other}, api.Stmt{}, api.ErrArg)
		wantWith(t, s, []int{1, 0}, stmtPart(other), api.Stmt{}, api.ErrKind)
	}
	for _, e := range exps {
		wantWith(t, s, []int{1, 0}, expPart(e), api.Stmt{}, api.ErrLimit)
		wantWith(t, s, nil, api.Part{Kind: api.PaStmt, Stmt: s, Exp: e}, api.Stmt{}, api.ErrArg)
	}
	for _, d := range ds {
		wantWith(t, block(decls(variables(1, "v")), s), []int{0}, declPart(d), api.Stmt{}, api.ErrLimit)
		wantWith(t, s, nil, api.Part{Kind: api.PaStmt, Stmt: s, Decl: d}, api.Stmt{}, api.ErrArg)
	}
	// Empty lists are zero.
	none := api.Part{Kind: api.PaStmt, Stmt: s, Decl: api.Decl{Names: []string{}, Exps: []api.Exp{}, Formals: []api.Formal{}, Body: []api.Stmt{}}, Elem: api.Elem{Exps: []api.Exp{}}, Exp: api.Exp{Args: make([]api.Exp, 0, 5)}}
	wantWith(t, empty(), nil, none, s, api.OK)
}

// P4.6, P4.12 and P4.16: parts made by chance, in all places of statements made by chance.
func TestReplacing(t *testing.T) {
	m := newMaker(6)
	count := map[api.Errno]int{}
	for _, s := range m.stmts(200) {
		whole := stmtPart(s)
		paths := pathsOf(whole)
		for range min(len(paths), 12) {
			path := pick(m, paths...)
			old, _ := partAt(whole, path)
			p := m.part(old.Kind, 1+m.Intn(4))
			result := replaced(whole, path, p).Stmt
			want := errorOf(stmtPart(result))
			count[want]++
			if want != api.OK {
				wantWith(t, s, path, p, api.Stmt{}, want)
				wantRefused(t, whole, path, p, want)
				continue
			}
			wantWith(t, s, path, p, result, api.OK)
			wantLaws(t, s, path, old, p, result)
		}
	}
	if count[api.OK] < 1200 || count[api.ErrArg] < 30 {
		t.Errorf("%v", count)
	}
}

// wantRefused reports a valid part that has been refused where P4.16 allows all of them.
func wantRefused(t *testing.T, whole api.Part, path []int, p api.Part, e api.Errno) {
	t.Helper()
	if e == api.ErrLimit || len(path) == 0 {
		return
	}
	last := path[len(path)-1]
	above, _ := partAt(whole, path[:len(path)-1])
	isTarget := p.Kind == api.PaExp && last < len(above.Stmt.Targets)
	isThen := p.Kind == api.PaStmt && above.Stmt.Kind == api.StIf && last == 1
	if !isTarget && !isThen {
		t.Errorf("With(%v, %v, %v): error %d", whole, path, p, e)
	}
}

// wantLaws reports what P4.12 says and does not hold for a part that has been replaced.
func wantLaws(t *testing.T, s api.Stmt, path []int, old, p api.Part, result api.Stmt) {
	t.Helper()
	wantPart(t, result, path, p)
	wantWith(t, result, path, old, s, api.OK)
	if d := tree.Size(result) - tree.Size(s); d != sizeOf(p)-sizeOf(old) {
		t.Errorf("the size changed by %d; those of the parts by %d", d, sizeOf(p)-sizeOf(old))
	}
	paths, _ := tree.Paths(s)
	for _, other := range paths {
		common := min(len(other), len(path))
		if slices.Equal(other[:common], path[:common]) {
			continue
		}
		before, _ := partAt(stmtPart(s), other)
		wantPart(t, result, other, before)
	}
	// What is replaced in p, and then put at the path, is replaced in the result.
	m := newMaker(int64(len(paths)))
	inner := pick(m, pathsOf(p)...)
	innermost, _ := partAt(p, inner)
	another := m.part(innermost.Kind, 2)
	changed := replaced(p, inner, another)
	first, e := tree.With(s, path, changed)
	second, e2 := tree.With(result, append(slices.Clone(path), inner...), another)
	if e != e2 || !equal(first, second) {
		t.Errorf("replacing inside of a replaced part at %v and %v: errors %d, %d", path, inner, e, e2)
	}
}

// P4.16: the parts of a valid statement are valid.
func TestPartsAreValid(t *testing.T) {
	for _, s := range newMaker(7).stmts(150) {
		paths, _ := tree.Paths(s)
		for _, path := range paths {
			p, e := tree.At(s, path)
			if e != api.OK {
				t.Errorf("At: error %d", e)
			}
			wantCheck(t, p, api.OK)
		}
	}
}

func wantOwns(t *testing.T, s api.Stmt, want ...int) {
	t.Helper()
	if owns, e := tree.Owns(s); e != api.OK || !slices.Equal(owns, want) {
		t.Errorf("Owns(%s) = %v, %d; want %v", short(s), owns, e, want)
	}
}

// P4.7 and P4.17.
func TestOwns(t *testing.T) {
	wantOwns(t, empty())
	wantOwns(t, sample(), 1, 14)
	wantOwns(t, own1(), 2)
	wantOwns(t, block(decls(own(variables(1, "a", "b")), own(arrays(1, []string{"c"}, num(1), num(2))), variables(2, "d"), own(variables(3, "e"))), empty()), 1, 2, 6)
	count := 0
	for _, s := range newMaker(8).stmts(600) {
		whole := stmtPart(s)
		var want []int
		for number, path := range pathsOf(whole) {
			if p, _ := partAt(whole, path); p.Kind == api.PaDecl && p.Decl.Own {
				want = append(want, number)
				count++
			}
		}
		wantOwns(t, s, want...)
	}
	if count < 100 {
		t.Errorf("%d own declarations", count)
	}
}

func wantNames(t *testing.T, p api.Part, want ...string) {
	t.Helper()
	names, e := tree.NamesExp(p.Exp)
	if p.Kind == api.PaStmt {
		names, e = tree.Names(p.Stmt)
	}
	if e != api.OK || !slices.Equal(names, want) {
		t.Errorf("the names of %s = %v, %d; want %v", short(content(p)), names, e, want)
	}
}

// P4.8: names of all kinds, and texts that are none.
func TestNames(t *testing.T) {
	wantNames(t, stmtPart(empty()))
	wantNames(t, stmtPart(empty("b", "a", "b")), "a", "b")
	wantNames(t, stmtPart(invoke("q", quoted("c"), num(1), name("b"), truth(true))), "b", "q")
	wantNames(t, stmtPart(sample()), "a", "f", "k", "l", "m", "p", "s", "v", "w", "x", "y", "z")
	wantNames(t, stmtPart(block(decls(proc(api.TyReal, "p", empty(), formal("z", 0, 0), formal("y", api.SpProc, 1))), empty())), "p", "y", "z")
	wantNames(t, stmtPart(block(decls(variables(1, "b", "a"), switches("s", name("t"))), empty("u"))), "a", "b", "s", "t", "u")
	wantNames(t, stmtPart(assign(call("f", index("i", name("n"))), name("x"), index("y", num(1)))), "f", "i", "n", "x", "y")
	wantNames(t, expPart(quoted("a")))
	wantNames(t, expPart(num(1)))
	wantNames(t, expPart(two(api.OpAdd, name("b1"), name("b"))), "b", "b1")
	wantNames(t, expPart(choice(name("a10"), call("a1", name("a")), index("a9", name("a")))), "a", "a1", "a10", "a9")
}

// P4.8 and P4.17: names of many parts.
func TestNamesOfMany(t *testing.T) {
	m := newMaker(9)
	for _, s := range m.stmts(300) {
		wantNames(t, stmtPart(s), identifiers(stmtPart(s))...)
	}
	for _, e := range m.exps(300) {
		wantNames(t, expPart(e), identifiers(expPart(e))...)
	}
}
