package scope_test

import (
	"reflect"
	"slices"
	"strings"
	"testing"

	"manorboy/api"
	"manorboy/scope"
	"manorboy/tree"
)

// results returns what all functions return for a statement, and their errors.
func results(s api.Stmt, number int, p api.Place) ([]any, []api.Errno) {
	uses, e1 := scope.Uses(s)
	places, e2 := scope.Places(s)
	name, e3 := scope.Name(s, p)
	numbers, e4 := scope.UsesOf(s, p)
	place, e5 := scope.Lookup(s, number, "abs")
	visible, e6 := scope.Visible(s, number)
	free, e7 := scope.Free(s)
	problems, e8 := scope.Check(s)
	enclosing, e9 := scope.Enclosing(s, number)
	level, e10 := scope.Level(s, number)
	return []any{uses, places, name, numbers, place, visible, free, problems, enclosing, level}, []api.Errno{e1, e2, e3, e4, e5, e6, e7, e8, e9, e10}
}

// isZero reports whether a result says nothing: a list may be nil or empty.
func isZero(x any) bool {
	v := reflect.ValueOf(x)
	return v.IsZero() || v.Kind() == reflect.Slice && v.Len() == 0
}

// TestNotValid checks the errors of statements that are not valid, which come ahead of all others: P6.2 to P6.8, R3, R4.
func TestNotValid(t *testing.T) {
	endless := api.Stmt{Kind: api.StList, Body: make([]api.Stmt, 1)}
	endless.Body[0] = endless
	name := func(s string) api.Exp { return api.Exp{Kind: api.ExName, Text: s} }
	decl := func(d api.Decl) api.Stmt {
		return api.Stmt{Kind: api.StBlock, Decls: []api.Decl{d}, Body: []api.Stmt{{Kind: api.StEmpty}}}
	}
	for _, s := range []api.Stmt{
		{}, {Kind: 9}, {Kind: api.StCall}, {Kind: api.StCall, Text: "begin"}, {Kind: api.StCall, Text: "abcdefghijklmnopq"}, {Kind: api.StEmpty, Labels: []string{"x", "1"}}, {Kind: api.StEmpty, Labels: []string{""}},
		{Kind: api.StGoto}, {Kind: api.StList}, {Kind: api.StBlock, Body: []api.Stmt{{Kind: api.StEmpty}}}, {Kind: api.StGoto, Exps: []api.Exp{name("X")}}, {Kind: api.StGoto, Exps: []api.Exp{{Kind: api.ExIf, Args: []api.Exp{name("x")}}}},
		{Kind: api.StAssign, Targets: []api.Exp{{Kind: api.ExCall, Text: "f", Args: []api.Exp{name("x")}}}, Exps: []api.Exp{name("x")}},
		decl(api.Decl{}), decl(api.Decl{Kind: api.DeProc, Names: []string{"p"}}), decl(api.Decl{Kind: api.DeArray, Type: api.TyInt, Names: []string{"a"}, Exps: []api.Exp{name("x")}}),
		decl(api.Decl{Kind: api.DeProc, Names: []string{"p"}, Body: []api.Stmt{{Kind: api.StEmpty}}, Formals: []api.Formal{{Name: "x"}, {Name: "x"}}}),
		{Kind: api.StList, Body: slices.Repeat([]api.Stmt{{Kind: api.StEmpty}}, 2000)}, endless, {Kind: api.StList, Body: []api.Stmt{endless, {}}},
	} {
		want := tree.Check(s)
		if want == api.OK {
			t.Fatal("a valid statement", short(s))
		}
		for _, number := range []int{0, -1, 7} {
			found, errors := results(s, number, api.Place{Kind: api.BiStandard, Node: -1, At: number})
			for i, e := range errors {
				if e != want || !isZero(found[i]) {
					t.Errorf("result %d of %s is %v, %d; want %d", i, short(s), found[i], e, want)
				}
			}
		}
	}
}

// TestLimits goes through the largest statements: R1.
func TestLimits(t *testing.T) {
	deep := "x"
	for range 58 {
		deep = "begin " + deep + " end"
	}
	blocks := "x := 1"
	for range 29 {
		blocks = "begin integer x; procedure p(x); l: " + blocks + "; end"
	}
	for text, occurrences := range map[string]int{
		"begin " + strings.Repeat("x;", 1998) + " end":              1998,
		"begin " + strings.Repeat("l:", 1998) + " end":              0,
		"begin integer x" + strings.Repeat(", x", 1995) + "; x end": 1,
		"begin " + strings.Repeat("l: goto l;", 660) + " end":       660,
		deep:   1,
		blocks: 1,
		"begin array a[1: 2" + strings.Repeat(" + a[1]", 50) + "]; a := a end":            52,
		"begin x := " + strings.Repeat("-(", 55) + "x" + strings.Repeat(")", 55) + " end": 2,
	} {
		s := stmtOf(t, text)
		paths, _ := tree.Paths(s)
		for _, number := range []int{0, 1, len(paths) - 1} {
			found, errors := results(s, number, api.Place{Kind: api.BiStandard, Node: -1})
			for i, e := range errors {
				if e != api.OK {
					t.Fatalf("result %d of %s: %d", i, short(text), e)
				}
			}
			if uses := found[0].([]api.Use); len(uses) != occurrences {
				t.Errorf("%d occurrences in %s", len(uses), short(text))
			}
		}
	}
}

// TestMemory checks R6 and R7: what is done to a result changes neither the statement nor another result, and the statement stays as it was, also behind the ends of its lists.
func TestMemory(t *testing.T) {
	for _, s := range stmts(t, 71, 100, 150) {
		roomy := withRoom(s)
		copied := withRoom(s)
		first, _ := results(roomy, 1, api.Place{Kind: api.BiStandard, Node: -1, At: 5})
		second, _ := results(roomy, 1, api.Place{Kind: api.BiStandard, Node: -1, At: 5})
		if !reflect.DeepEqual(first, second) {
			t.Fatalf("two results for %s", textOf(t, s))
		}
		for _, x := range first {
			if v := reflect.ValueOf(x); v.Kind() == reflect.Slice {
				v = v.Slice(0, v.Cap())
				for i := range v.Len() {
					v.Index(i).SetZero()
				}
			}
		}
		third, _ := results(roomy, 1, api.Place{Kind: api.BiStandard, Node: -1, At: 5})
		if !reflect.DeepEqual(third, second) || !reflect.DeepEqual(whole(roomy), whole(copied)) {
			t.Fatalf("a change of a result is seen in %s", textOf(t, s))
		}
	}
}

// withRoom returns a copy of a statement whose lists of labels, statements and expressions have capacity left, with something in it.
func withRoom(s api.Stmt) api.Stmt {
	s, _ = tree.Copy(s)
	s.Labels = append(slices.Clone(s.Labels), "spare")[:len(s.Labels)]
	s.Body = append(slices.Clone(s.Body), api.Stmt{Kind: 77})[:len(s.Body)]
	s.Exps = append(slices.Clone(s.Exps), api.Exp{Kind: 77})[:len(s.Exps)]
	s.Decls = append(slices.Clone(s.Decls), api.Decl{Kind: 77})[:len(s.Decls)]
	for i := range s.Body {
		s.Body[i] = withRoom(s.Body[i])
	}
	for i, d := range s.Decls {
		s.Decls[i].Names = append(slices.Clone(d.Names), "spare")[:len(d.Names)]
		s.Decls[i].Exps = append(slices.Clone(d.Exps), api.Exp{Kind: 77})[:len(d.Exps)]
	}
	return s
}

// whole returns a statement whose lists are as long as their capacity.
func whole(s api.Stmt) api.Stmt {
	if cap(s.Labels) > len(s.Labels) {
		s.Labels = s.Labels[:len(s.Labels)+1]
	}
	body := slices.Clone(s.Body)
	for i := range body {
		body[i] = whole(body[i])
	}
	s.Body = append(body, s.Body[len(s.Body):len(s.Body)+1]...)
	s.Exps = s.Exps[:len(s.Exps)+1]
	decls := slices.Clone(s.Decls)
	for i, d := range decls {
		decls[i].Names = d.Names[:len(d.Names)+1]
		decls[i].Exps = d.Exps[:len(d.Exps)+1]
	}
	s.Decls = append(decls, s.Decls[len(s.Decls):len(s.Decls)+1]...)
	return s
}
