package tree_test

import (
	"reflect"
	"slices"
	"testing"

	"manorboy/api"
	"manorboy/tree"
)

// region is the memory of a list: all of its elements, up to its capacity.
type region struct {
	from, end uintptr
}

// regions returns the memory of all lists in a value.
func regions(v reflect.Value) []region {
	var l []region
	switch v.Kind() {
	case reflect.Struct:
		for i := range v.NumField() {
			l = append(l, regions(v.Field(i))...)
		}
	case reflect.Slice:
		if size := uintptr(v.Cap()) * v.Type().Elem().Size(); size > 0 {
			l = append(l, region{v.Pointer(), v.Pointer() + size})
		}
		for i := range v.Len() {
			l = append(l, regions(v.Index(i))...)
		}
	}
	return l
}

// wantNew reports lists of results that share memory with each other, or with an argument.
func wantNew(t *testing.T, what string, argument any, results ...any) {
	t.Helper()
	arguments := regions(reflect.ValueOf(argument))
	var all []region
	for _, result := range results {
		all = append(all, regions(reflect.ValueOf(result))...)
	}
	slices.SortFunc(all, func(a, b region) int { return int(a.from) - int(b.from) })
	for i, r := range all {
		if i > 0 && all[i-1].end > r.from {
			t.Errorf("%s: two lists of results share memory", what)
		}
		for _, a := range arguments {
			if r.from < a.end && a.from < r.end {
				t.Errorf("%s: a result shares memory with an argument", what)
			}
		}
	}
}

// roomy returns a copy of a value whose lists have room behind their ends, with elements that nobody may touch.
func roomy[T any](x T) T {
	return roomyValue(reflect.ValueOf(x)).Interface().(T)
}

func roomyValue(v reflect.Value) reflect.Value {
	copied := reflect.New(v.Type()).Elem()
	copied.Set(v)
	switch v.Kind() {
	case reflect.Struct:
		for i := range v.NumField() {
			copied.Field(i).Set(roomyValue(v.Field(i)))
		}
	case reflect.Slice:
		all := reflect.MakeSlice(v.Type(), v.Len()+3, v.Len()+3)
		for i := range v.Len() {
			all.Index(i).Set(roomyValue(v.Index(i)))
		}
		for i := v.Len(); i < all.Len(); i++ {
			mark(all.Index(i))
		}
		copied.Set(all.Slice(0, v.Len()))
	}
	return copied
}

// mark sets the first number or string of a value.
func mark(v reflect.Value) {
	switch v.Kind() {
	case reflect.Int:
		v.SetInt(4711)
	case reflect.String:
		v.SetString("kept")
	case reflect.Struct:
		for i := range v.NumField() {
			mark(v.Field(i))
		}
	}
}

// isKept reports whether two values are equal up to the capacities of their lists.
func isKept(a, b any) bool {
	return equal(stretched(reflect.ValueOf(a)).Interface(), stretched(reflect.ValueOf(b)).Interface())
}

func stretched(v reflect.Value) reflect.Value {
	copied := reflect.New(v.Type()).Elem()
	copied.Set(v)
	switch v.Kind() {
	case reflect.Struct:
		for i := range v.NumField() {
			copied.Field(i).Set(stretched(v.Field(i)))
		}
	case reflect.Slice:
		all := reflect.MakeSlice(v.Type(), v.Cap(), v.Cap())
		full := v.Slice(0, v.Cap())
		for i := range full.Len() {
			all.Index(i).Set(stretched(full.Index(i)))
		}
		copied.Set(all)
	}
	return copied
}

// spoil changes all elements of all lists of a value, up to their capacities.
func spoil(v reflect.Value) {
	switch v.Kind() {
	case reflect.Struct:
		for i := range v.NumField() {
			spoil(v.Field(i))
		}
	case reflect.Slice:
		for i := range v.Len() {
			spoil(v.Index(i))
		}
		full := v.Slice(0, v.Cap())
		for i := range full.Len() {
			full.Index(i).SetZero()
			mark(full.Index(i))
		}
	}
}

// P4.19 and R6: the results for a statement are new, and the statement stays as it is, also behind the ends of its lists.
func TestResultsAreNew(t *testing.T) {
	m := newMaker(21)
	for _, s := range append(m.stmts(120), sample()) {
		s = roomy(s)
		before := roomy(s)
		path := roomy(pick(m, pathsOf(stmtPart(s))...))
		old, _ := partAt(stmtPart(s), path)
		p := roomy(m.part(old.Kind, 3))
		pBefore := roomy(p)
		copied, _ := tree.Copy(s)
		paths, _ := tree.Paths(s)
		part, _ := tree.At(s, path)
		with, _ := tree.With(s, path, p)
		back, _ := tree.With(s, path, old)
		owns, _ := tree.Owns(s)
		names, _ := tree.Names(s)
		text, _ := tree.Print(s)
		again, _ := tree.Copy(s)
		tree.Number(s, path)
		tree.Same(s, copied)
		results := []any{copied, paths, part, with, back, owns, names, again}
		type arguments struct {
			S, Before api.Stmt
			P         api.Part
			Path      []int
		}
		wantNew(t, "statement", arguments{s, before, p, path}, results...)
		if !isKept(s, before) || !isKept(p, pBefore) || !isKept(path, roomy(slices.Clone(path))) {
			t.Errorf("an argument has been changed: %s", short(before))
		}
		for _, result := range results[:len(results)-1] {
			spoil(reflect.ValueOf(result))
		}
		second, _ := tree.Print(s)
		if !isKept(s, before) || !isKept(p, pBefore) || !equal(again, before) || second != text {
			t.Errorf("a change of a result changed something else: %s", short(before))
		}
	}
}

// P4.19 and R6: the same for expressions, and for what is put into a statement.
func TestCopiesAreNew(t *testing.T) {
	m := newMaker(22)
	for _, e := range m.exps(200) {
		e = roomy(e)
		before := roomy(e)
		first, _ := tree.CopyExp(e)
		second, _ := tree.CopyExp(e)
		names, _ := tree.NamesExp(e)
		tree.PrintExp(e)
		tree.SameExp(e, first)
		s, err := tree.With(jump(num(1)), []int{0}, expPart(e))
		wantNew(t, "expression", e, first, second, names, s)
		if err != api.OK || !isKept(e, before) || !equal(first, e) || !equal(second, e) || !equal(s, jump(e)) {
			t.Errorf("CopyExp(%s) = %s, %s", short(e), short(first), short(second))
		}
		spoil(reflect.ValueOf(first))
		spoil(reflect.ValueOf(s))
		if !isKept(e, before) || !equal(second, before) {
			t.Errorf("a change of a copy of %s changed something else", short(before))
		}
	}
	d := roomy(sample().Decls[1])
	s, err := tree.With(sample(), []int{1}, declPart(d))
	wantNew(t, "declaration", d, s)
	if err != api.OK || !equal(s, sample()) {
		t.Errorf("With: error %d", err)
	}
	if text, _ := tree.PrintDecl(d); text == "" || !isKept(d, roomy(sample().Decls[1])) {
		t.Errorf("PrintDecl changed its argument")
	}
}

// P4.4 and P4.19: parts of an argument that share memory with each other do not share any in the result.
func TestSharedMemory(t *testing.T) {
	args := []api.Exp{num(1), index("a", num(2))}
	e := api.Exp{Kind: api.ExTwo, Op: api.OpAdd, Args: []api.Exp{{Kind: api.ExTwo, Op: api.OpMul, Args: args}, {Kind: api.ExTwo, Op: api.OpMul, Args: args}}}
	s := assign(e, name("x"), index("y", args...), index("y", args...))
	other := api.Stmt{Kind: api.StList, Body: []api.Stmt{s, s}}
	copied, e1 := tree.CopyExp(e)
	whole, e2 := tree.Copy(other)
	with, e3 := tree.With(other, []int{1}, stmtPart(other))
	wantNew(t, "shared", other, copied, whole, with)
	if e1 != api.OK || e2 != api.OK || e3 != api.OK || !equal(copied, e) || !equal(whole, other) || !equal(with, list(s, other)) {
		t.Errorf("errors %d, %d, %d", e1, e2, e3)
	}
	changed, _ := tree.With(other, []int{0, 3, 0, 1}, expPart(num(9)))
	if n := num(9); !equal(changed.Body[0].Exps[0].Args[0].Args[1], n) || !equal(changed.Body[1], s) || !equal(changed.Body[0].Exps[0].Args[1], e.Args[1]) {
		t.Errorf("With(%s) = %s", short(other), short(changed))
	}
}

// P4.6 and R6: with an error, too, the arguments stay as they are.
func TestArgumentsOfErrors(t *testing.T) {
	s := roomy(list(jump(name("a")), when(name("a"), empty())))
	before := roomy(s)
	for _, x := range []struct {
		path []int
		p    api.Part
	}{{[]int{0, 0}, expPart(num(-1))}, {[]int{1, 1}, stmtPart(when(num(1), empty()))}, {[]int{5}, stmtPart(s)}, {[]int{0}, expPart(num(1))}, {[]int{0}, stmtPart(row(2000))}, {[]int{0}, api.Part{Kind: api.PaStmt, Stmt: s, Exp: num(1)}}} {
		p := roomy(x.p)
		if _, e := tree.With(s, x.path, p); e == api.OK {
			t.Errorf("With(%v, %s): no error", x.path, short(x.p))
		}
		if !isKept(s, before) || !isKept(p, roomy(x.p)) {
			t.Errorf("With(%v, %s) changed an argument", x.path, short(x.p))
		}
	}
}

// P4.4.
func TestCopy(t *testing.T) {
	m := newMaker(23)
	for _, s := range append(m.stmts(200), sample(), row(2000), nested(59), empty()) {
		if copied, e := tree.Copy(s); e != api.OK || !equal(copied, s) {
			t.Errorf("Copy(%s) = %s, %d", short(s), short(copied), e)
		}
	}
	for _, e := range append(m.exps(200), chain(60), num(1)) {
		if copied, err := tree.CopyExp(e); err != api.OK || !equal(copied, e) {
			t.Errorf("CopyExp(%s) = %s, %d", short(e), short(copied), err)
		}
	}
}

func wantSame(t *testing.T, a, b api.Stmt, want bool) {
	t.Helper()
	if tree.Same(a, b) != want || tree.Same(b, a) != want {
		t.Errorf("Same(%s, %s) = %v", short(a), short(b), !want)
	}
}

func wantSameExp(t *testing.T, a, b api.Exp, want bool) {
	t.Helper()
	if tree.SameExp(a, b) != want || tree.SameExp(b, a) != want {
		t.Errorf("SameExp(%s, %s) = %v", short(a), short(b), !want)
	}
}

// P4.3: each field matters, in parts of each kind, whether they are valid or not.
func TestSameByFields(t *testing.T) {
	others := map[string]any{
		"Kind": 77, "Op": 5, "N": -8, "Real": api.Real{Man: 5}, "Text": "other", "Args": []api.Exp{{}}, "Exps": []api.Exp{{N: 1}}, "Labels": []string{"other"}, "Targets": []api.Exp{{}, {}},
		"For": []api.Elem{{}}, "Decls": []api.Decl{{}}, "Body": []api.Stmt{{Kind: 9}}, "Own": true, "Type": 9, "Names": []string{"other", ""}, "Formals": []api.Formal{{}},
	}
	compared := 0
	for _, p := range append(right(), expPart(api.Exp{}), elemPart(api.Elem{}), declPart(api.Decl{}), stmtPart(api.Stmt{})) {
		v := reflect.ValueOf(content(p))
		for i := range v.NumField() {
			other := withField(p, v.Type().Field(i).Name, others[v.Type().Field(i).Name])
			wantSame(t, around(p), around(p), true)
			wantSame(t, around(p), around(other), false)
			if p.Kind == api.PaExp {
				wantSameExp(t, p.Exp, p.Exp, true)
				wantSameExp(t, p.Exp, other.Exp, false)
			}
			compared++
		}
	}
	if compared < 150 {
		t.Errorf("%d comparisons", compared)
	}
	f := formal("f", api.SpVar, api.TyInt)
	for _, other := range []api.Formal{formal("g", api.SpVar, api.TyInt), formal("f", api.SpArray, api.TyInt), formal("f", api.SpVar, api.TyReal), byValue(f)} {
		wantSame(t, block(decls(proc(0, "p", empty(), f)), empty()), block(decls(proc(0, "p", empty(), other)), empty()), false)
	}
}

// around returns a statement with a part.
func around(p api.Part) api.Stmt {
	switch p.Kind {
	case api.PaDecl:
		return api.Stmt{Decls: []api.Decl{p.Decl}}
	case api.PaElem:
		return api.Stmt{For: []api.Elem{p.Elem}}
	case api.PaExp:
		return api.Stmt{Exps: []api.Exp{{}, p.Exp}}
	}
	return p.Stmt
}

// P4.3: where a list is, and how long it is, matters; whether an empty one is nil does not.
func TestSameByLists(t *testing.T) {
	a := name("a")
	wantSame(t, empty(), api.Stmt{Kind: api.StEmpty, Labels: []string{}, Targets: []api.Exp{}, Exps: []api.Exp{}, For: []api.Elem{}, Decls: []api.Decl{}, Body: []api.Stmt{}}, true)
	wantSame(t, block([]api.Decl{{}}), block([]api.Decl{{Names: []string{}, Exps: []api.Exp{}, Formals: []api.Formal{}, Body: []api.Stmt{}}}), true)
	wantSame(t, api.Stmt{For: []api.Elem{{}}}, api.Stmt{For: []api.Elem{{Exps: []api.Exp{}}}}, true)
	wantSameExp(t, num(1), api.Exp{Kind: api.ExInt, N: 1, Args: []api.Exp{}}, true)
	wantSame(t, list(empty(), empty()), list(empty()), false)
	wantSame(t, list(empty(), invoke("p")), list(invoke("p"), empty()), false)
	wantSame(t, empty("a", "b"), empty("b", "a"), false)
	wantSame(t, empty("a", "a"), empty("a"), false)
	wantSame(t, api.Stmt{Targets: []api.Exp{a}}, api.Stmt{Exps: []api.Exp{a}}, false)
	wantSameExp(t, two(api.OpSub, a, num(1)), two(api.OpSub, num(1), a), false)
	wantSameExp(t, call("f", a), index("f", a), false)
	wantSameExp(t, num(1), number("1"), false)
	wantSameExp(t, chain(60), chain(60), true)
	wantSameExp(t, chain(60), chain(59), false)
	wantSame(t, row(2000), row(2000), true)
	wantSame(t, row(2001), row(2001), false)
	wantSame(t, nested(59), nested(59), true)
	wantSame(t, nested(60), nested(60), false)
	wantSame(t, row(2001), row(2000), false)
	wantSameExp(t, chain(61), chain(61), false)
	wantSameExp(t, api.Exp{}, api.Exp{}, true)
}

// P4.3: parts made by chance, and changed by chance.
func TestSameOfMany(t *testing.T) {
	m := newMaker(24)
	equals := 0
	for range 3000 {
		whole := stmtPart(m.stmt(1 + m.Intn(5)))
		path := pick(m, pathsOf(whole)...)
		p, _ := partAt(whole, path)
		other := replaced(whole, path, m.mutant(p))
		want := equal(whole.Stmt, other.Stmt)
		wantSame(t, whole.Stmt, other.Stmt, want)
		wantSame(t, whole.Stmt, roomy(whole.Stmt), true)
		if want {
			equals++
		}
	}
	if equals > 1500 {
		t.Errorf("%d of 3000 parts are equal to others", equals)
	}
	l := m.exps(60)
	for _, a := range l {
		for _, b := range l {
			wantSameExp(t, a, b, equal(a, b))
		}
	}
}
