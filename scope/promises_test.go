package scope_test

import (
	"slices"
	"testing"

	"manorboy/api"
	"manorboy/scope"
	"manorboy/tree"
)

// of returns what a function returns for a statement without an error.
func of[T any](t *testing.T, f func(api.Stmt) (T, api.Errno), s api.Stmt) T {
	t.Helper()
	result, e := f(s)
	if e != api.OK {
		t.Fatalf("%d for %s", e, textOf(t, s))
	}
	return result
}

func nameOf(t *testing.T, s api.Stmt, p api.Place) string {
	t.Helper()
	name, e := scope.Name(s, p)
	if e != api.OK {
		t.Fatalf("Name(%s, %v): %d", textOf(t, s), p, e)
	}
	return name
}

// isDeclared reports whether a use denotes a declaration of the statement itself.
func isDeclared(u api.Use) bool { return u.Place.Kind > api.BiStandard }

// moved returns a use with greater numbers.
func moved(u api.Use, by int) api.Use {
	u.Node += by
	if isDeclared(u) {
		u.Place.Node += by
	}
	return u
}

// moveAll returns uses and problems with greater numbers.
func moveAll(uses []api.Use, problems []api.Problem, by int) ([]api.Use, []api.Problem) {
	uses, problems = slices.Clone(uses), slices.Clone(problems)
	for i := range uses {
		uses[i] = moved(uses[i], by)
	}
	for i := range problems {
		problems[i].Node += by
	}
	return uses, problems
}

// standardPlaces returns the places of the standard procedures.
func standardPlaces() []api.Place {
	var l []api.Place
	for i := range scope.Standard() {
		l = append(l, api.Place{Kind: api.BiStandard, Node: -1, At: i})
	}
	return l
}

// rename gives another name to what is declared at a place, and to the occurrences with some numbers.
func rename(t *testing.T, s api.Stmt, p api.Place, numbers []int, to string) api.Stmt {
	t.Helper()
	s = changed(t, s, p.Node, func(part *api.Part) {
		switch p.Kind {
		case api.BiLabel:
			part.Stmt.Labels[p.At] = to
		case api.BiFormal:
			part.Decl.Formals[p.At].Name = to
		default:
			part.Decl.Names[p.At] = to
		}
	})
	for _, number := range numbers {
		s = changed(t, s, number, func(part *api.Part) {
			if part.Kind == api.PaStmt {
				part.Stmt.Text = to
			} else {
				part.Exp.Text = to
			}
		})
	}
	return s
}

// TestRenaming checks P6.9 for each declaration of statements.
func TestRenaming(t *testing.T) {
	count := 0
	for _, s := range stmts(t, 62, 120, 60) {
		uses, problems := of(t, scope.Uses, s), of(t, scope.Check, s)
		for _, p := range of(t, scope.Places, s) {
			name := nameOf(t, s, p)
			numbers, e := scope.UsesOf(s, p)
			if e != api.OK {
				t.Fatal(e)
			}
			if hasTwin(t, s, p) {
				continue
			}
			count++
			renamed := rename(t, s, p, numbers, "fresh")
			wanted := slices.Clone(uses)
			for i, u := range wanted {
				if u.Place == p {
					wanted[i].Name = "fresh"
				}
			}
			same(t, textOf(t, renamed), "Uses", of(t, scope.Uses, renamed), wanted, api.OK)
			if slices.ContainsFunc(problems, func(x api.Problem) bool { return x.Kind == api.PrBound && x.Name == name }) {
				continue
			}
			if got := of(t, scope.Check, renamed); !slices.EqualFunc(got, problems, func(a, b api.Problem) bool {
				return a.Kind == b.Kind && a.Node == b.Node && (a.Name == b.Name || a.Name == "fresh" && b.Name == name && slices.Contains(numbers, a.Node))
			}) {
				t.Fatalf("Check(%s) = %v; of %s %v", textOf(t, renamed), got, textOf(t, s), problems)
			}
		}
	}
	if count < 300 {
		t.Errorf("only %d declarations were renamed", count)
	}
}

// hasTwin reports whether another declaration of the identifier of a declaration is in the same scope: of the two, just one is ahead of the other one, and there is a PrTwice for the other one as long as nothing else in this scope has the identifier.
func hasTwin(t *testing.T, s api.Stmt, p api.Place) bool {
	t.Helper()
	count := func(s api.Stmt) int {
		n := 0
		for _, x := range of(t, scope.Check, s) {
			if x.Kind == api.PrTwice {
				n++
			}
		}
		return n
	}
	return count(rename(t, s, p, nil, "fresh")) != count(s)
}

// TestLookups checks P6.10: at all parts of statements.
func TestLookups(t *testing.T) {
	for _, s := range stmts(t, 63, 150, 120) {
		for _, u := range of(t, scope.Uses, s) {
			p, e := scope.Lookup(s, u.Node, u.Name)
			if p != u.Place || (e == api.ErrNone) != (u.Place == api.Place{}) {
				t.Fatalf("Lookup(%s, %d, %s) = %v, %d; want %v", textOf(t, s), u.Node, u.Name, p, e, u.Place)
			}
		}
		names, _ := tree.Names(s)
		names = append(names, scope.Standard()...)
		slices.Sort(names)
		paths, _ := tree.Paths(s)
		for number := range paths {
			var want []api.Place
			for _, name := range slices.Compact(slices.Clone(names)) {
				if p, e := scope.Lookup(s, number, name); e == api.OK {
					want = append(want, p)
				}
			}
			got, e := scope.Visible(s, number)
			same(t, textOf(t, s), "Visible", got, want, e)
		}
	}
}

// TestParts checks P6.11 for each statement in statements.
func TestParts(t *testing.T) {
	count := 0
	for _, s := range stmts(t, 64, 250, 120) {
		_, parts := partsOf(t, s)
		uses := of(t, scope.Uses, s)
		for number, p := range parts {
			if p.Kind != api.PaStmt || len(p.Stmt.Labels) > 0 {
				continue
			}
			for _, alone := range of(t, scope.Uses, p.Stmt) {
				count++
				want := moved(alone, number)
				if !isDeclared(alone) {
					want.Place, _ = scope.Lookup(s, number, alone.Name)
				}
				if !slices.Contains(uses, want) {
					t.Fatalf("%v is none of the uses of %s: %v", want, textOf(t, s), uses)
				}
			}
		}
	}
	if count < 2000 {
		t.Errorf("only %d occurrences", count)
	}
}

// TestFreeAround checks P6.12.
func TestFreeAround(t *testing.T) {
	for _, s := range stmts(t, 65, 300, 200) {
		free := of(t, scope.Free, s)
		if got := of(t, scope.Free, api.Stmt{Kind: api.StList, Body: []api.Stmt{s}}); !slices.Equal(got, free) {
			t.Fatalf("Free is %v around, and %v of %s", got, free, textOf(t, s))
		}
		if len(free) == 0 {
			continue
		}
		around := within(s, free...)
		if got := of(t, scope.Free, around); len(got) > 0 {
			t.Fatalf("Free(%s) = %v", textOf(t, around), got)
		}
		var want []api.Use
		for _, u := range of(t, scope.Uses, s) {
			u = moved(u, 2)
			if !isDeclared(u) {
				u.Place = api.Place{Kind: api.BiVar, Node: 1, At: slices.Index(free, u.Name)}
			}
			want = append(want, u)
		}
		same(t, textOf(t, around), "Uses", of(t, scope.Uses, around), want, api.OK)
	}
}

// TestSurroundings checks P6.13 for all identifiers of statements that are not free, and one that does not occur.
func TestSurroundings(t *testing.T) {
	for _, s := range stmts(t, 66, 200, 150) {
		free := of(t, scope.Free, s)
		names, _ := tree.Names(s)
		uses, problems := moveAll(of(t, scope.Uses, s), of(t, scope.Check, s), 2)
		for _, name := range append(names, "other", "sign", "abs") {
			if slices.Contains(free, name) || slices.Contains(s.Labels, name) {
				continue
			}
			around := within(s, name)
			same(t, textOf(t, around), "Uses", of(t, scope.Uses, around), uses, api.OK)
			same(t, textOf(t, around), "Check", of(t, scope.Check, around), problems, api.OK)
		}
	}
}

// TestAllPlaces checks P6.14.
func TestAllPlaces(t *testing.T) {
	for _, s := range stmts(t, 67, 200, 200) {
		var numbers []int
		for _, p := range append(of(t, scope.Places, s), standardPlaces()...) {
			l, e := scope.UsesOf(s, p)
			if e != api.OK || !slices.IsSorted(l) {
				t.Fatalf("UsesOf(%s, %v) = %v, %d", textOf(t, s), p, l, e)
			}
			numbers = append(numbers, l...)
		}
		var want []int
		for _, u := range of(t, scope.Uses, s) {
			want = append(want, u.Node)
			if u.Place.Kind == 0 {
				numbers = append(numbers, u.Node)
			} else if name := nameOf(t, s, u.Place); name != u.Name {
				t.Fatalf("%s at %v of %s is the place of %s", u.Name, u.Place, textOf(t, s), name)
			}
		}
		slices.Sort(numbers)
		if !slices.Equal(numbers, want) {
			t.Fatalf("uses of %s: %v; want %v", textOf(t, s), numbers, want)
		}
	}
}

// TestLevelOfChildren checks P6.15.
func TestLevelOfChildren(t *testing.T) {
	for _, s := range stmts(t, 68, 200, 150) {
		paths, parts := partsOf(t, s)
		for child, path := range paths {
			if len(path) == 0 {
				continue
			}
			number, _ := tree.Number(s, path[:len(path)-1])
			level, _ := scope.Level(s, number)
			enclosing, _ := scope.Enclosing(s, number)
			switch p := parts[number]; {
			case p.Kind == api.PaStmt && p.Stmt.Kind == api.StBlock:
				level++
			case p.Kind == api.PaDecl && p.Decl.Kind == api.DeProc:
				level, enclosing = level+1, number
			case p.Kind == api.PaDecl && p.Decl.Kind == api.DeArray:
				level--
			}
			if got, e := scope.Level(s, child); got != level || e != api.OK {
				t.Fatalf("Level(%s, %d) = %d, %d; want %d", textOf(t, s), child, got, e, level)
			}
			if got, e := scope.Enclosing(s, child); got != enclosing || e != api.OK {
				t.Fatalf("Enclosing(%s, %d) = %d, %d; want %d", textOf(t, s), child, got, e, enclosing)
			}
		}
	}
}

// TestUnknown checks the first half of P6.16.
func TestUnknown(t *testing.T) {
	kinds := map[int]int{}
	for _, s := range stmts(t, 69, 300, 200) {
		problems := map[int]int{}
		for _, p := range of(t, scope.Check, s) {
			kinds[p.Kind]++
			if p.Kind != api.PrTwice {
				problems[p.Node] = p.Kind
			}
		}
		for _, u := range of(t, scope.Uses, s) {
			kind, isUnknown := problems[u.Node], u.Place == api.Place{}
			if isUnknown && kind != api.PrUnknown && kind != api.PrBound || !isUnknown && kind == api.PrUnknown {
				t.Fatalf("%v of %s has the problem %d", u, textOf(t, s), kind)
			}
		}
	}
	for kind := api.PrTwice; kind <= api.PrCount; kind++ {
		if kinds[kind] < 50 {
			t.Errorf("only %d problems %d", kinds[kind], kind)
		}
	}
}

// TestOnceMore checks the second half of P6.16: for each identifier that a block declares, as a variable and as a label.
func TestOnceMore(t *testing.T) {
	for _, s := range stmts(t, 70, 150, 80) {
		for _, name := range blockNames(s) {
			more := s
			more.Decls = append(slices.Clone(s.Decls), api.Decl{Kind: api.DeVar, Type: api.TyReal, Names: []string{name}})
			behind := len(usesOfDecls(t, s))
			compareOnceMore(t, s, more, behind, name)
		}
		for _, name := range append(blockNames(s), blockLabels(s)...) {
			more := s
			more.Body = append(slices.Clone(s.Body), api.Stmt{Kind: api.StEmpty, Labels: []string{name}})
			paths, _ := tree.Paths(s)
			compareOnceMore(t, s, more, len(paths), name)
		}
	}
}

// blockNames returns the identifiers that the declarations of a block declare.
func blockNames(s api.Stmt) []string {
	var names []string
	for _, d := range s.Decls {
		names = append(names, d.Names...)
	}
	return names
}

// blockLabels returns the labels that the list of a block declares.
func blockLabels(s api.Stmt) []string {
	var labels []string
	if s.Kind == api.StBlock {
		for _, b := range s.Body {
			labels = append(labels, b.Labels...)
		}
	}
	return labels
}

// usesOfDecls returns the paths of a block itself and of its declarations with all of their parts.
func usesOfDecls(t *testing.T, s api.Stmt) [][]int {
	t.Helper()
	paths, e := tree.Paths(s)
	if e != api.OK {
		t.Fatal(e)
	}
	return slices.DeleteFunc(paths, func(path []int) bool { return len(path) > 0 && path[0] >= len(s.Decls) })
}

// compareOnceMore compares a block with one that declares an identifier once more, in the part with a number.
func compareOnceMore(t *testing.T, s, more api.Stmt, number int, name string) {
	t.Helper()
	var want []api.Use
	for _, u := range of(t, scope.Uses, s) {
		if u.Node >= number {
			u.Node++
		}
		if isDeclared(u) && u.Place.Node >= number {
			u.Place.Node++
		}
		want = append(want, u)
	}
	same(t, textOf(t, more), "Uses", of(t, scope.Uses, more), want, api.OK)
	if !slices.Contains(of(t, scope.Check, more), api.Problem{Kind: api.PrTwice, Node: number, Name: name}) {
		t.Fatalf("%s, in %d, is declared once: %s", name, number, textOf(t, more))
	}
}
