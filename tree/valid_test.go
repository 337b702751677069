package tree_test

import (
	"reflect"
	"slices"
	"strings"
	"testing"

	"manorboy/api"
	"manorboy/tree"
)

// checked returns what the function for the kind of a part returns for it; an element is put into a statement.
func checked(p api.Part) api.Errno {
	switch p.Kind {
	case api.PaStmt:
		return tree.Check(p.Stmt)
	case api.PaDecl:
		return tree.CheckDecl(p.Decl)
	case api.PaElem:
		return tree.Check(loop(name("x"), empty(), p.Elem))
	}
	return tree.CheckExp(p.Exp)
}

func wantCheck(t *testing.T, p api.Part, want api.Errno) {
	t.Helper()
	if e := checked(p); e != want {
		t.Errorf("Check of %s: error %d; want %d", short(content(p)), e, want)
	}
}

// right returns for each kind of statements, declarations, elements and expressions a valid part whose lists are as short as they can be.
func right() []api.Part {
	a := name("a")
	return []api.Part{
		expPart(num(0)), expPart(number("0.5")), expPart(truth(true)), expPart(truth(false)), expPart(quoted("")), expPart(a), expPart(index("a", a)), expPart(call("f", a)), expPart(one(api.OpNeg, a)), expPart(two(api.OpAdd, a, a)), expPart(choice(a, a, a)),
		elemPart(once(a)), elemPart(step(a, a, a)), elemPart(while(a, a)),
		stmtPart(empty()), stmtPart(assign(a, a)), stmtPart(jump(a)), stmtPart(when(a, empty())), stmtPart(loop(a, empty(), once(a))), stmtPart(invoke("p")), stmtPart(block(decls(variables(api.TyInt, "v")), empty())), stmtPart(list(empty())),
		declPart(variables(api.TyInt, "v")), declPart(arrays(api.TyReal, []string{"v"}, a, a)), declPart(switches("s", a)), declPart(proc(api.TyNone, "p", empty())),
	}
}

// P4.1: one part of each kind.
func TestEachKind(t *testing.T) {
	kinds := map[[2]int]bool{}
	for _, p := range right() {
		wantCheck(t, p, api.OK)
		kinds[[2]int{p.Kind, int(reflect.ValueOf(content(p)).FieldByName("Kind").Int())}] = true
	}
	if len(kinds) != 8+4+3+11 {
		t.Errorf("%d kinds", len(kinds))
	}
}

// withField returns a part with another value of a field.
func withField(p api.Part, field string, value any) api.Part {
	v := reflect.New(reflect.TypeOf(content(p))).Elem()
	v.Set(reflect.ValueOf(content(p)))
	v.FieldByName(field).Set(reflect.ValueOf(value))
	return partOf(v.Interface())
}

// P4.1: a Kind that the tables do not name.
func TestUnknownKinds(t *testing.T) {
	for _, p := range right() {
		most := len(rows[p.Kind])
		for _, kind := range []int{0, -1, most + 1, most + 2, 1 << 40, -1 << 63} {
			wantCheck(t, withField(p, "Kind", kind), api.ErrArg)
		}
	}
	for _, p := range []api.Part{stmtPart(api.Stmt{}), declPart(api.Decl{}), elemPart(api.Elem{}), expPart(api.Exp{})} {
		wantCheck(t, p, api.ErrArg)
	}
}

// P4.1: for each kind, and each list, how many elements there can be. A part whose kind does not have the list can have none.
func TestLengths(t *testing.T) {
	elements := map[string]any{
		"Labels": "l", "Names": "m", "Targets": name("x"), "Exps": name("y"), "Args": name("z"), "For": once(num(1)), "Decls": variables(api.TyBool, "d"), "Body": invoke("q"), "Formals": formal("f", 0, 0),
	}
	for _, p := range right() {
		v := reflect.ValueOf(content(p))
		for i := range v.NumField() {
			field := v.Type().Field(i)
			if field.Type.Kind() != reflect.Slice {
				continue
			}
			for length := range 12 {
				list := reflect.MakeSlice(field.Type, 0, 0)
				for k := range length {
					x := elements[field.Name]
					if field.Name == "Formals" {
						x = formal("f"+string(rune('a'+k)), 0, 0)
					}
					list = reflect.Append(list, reflect.ValueOf(x))
				}
				other := withField(p, field.Name, list.Interface())
				wantCheck(t, other, errorOf(other))
			}
		}
	}
}

// P4.1: the lengths that the chapter names, by themselves.
func TestLengthsOfTheTables(t *testing.T) {
	a := name("a")
	l := func(n int) []api.Exp { return slices.Repeat([]api.Exp{a}, n) }
	for _, x := range []struct {
		p     api.Part
		valid bool
	}{
		{expPart(index("a")), false}, {expPart(index("a", l(1)...)), true}, {expPart(index("a", l(4)...)), true}, {expPart(index("a", l(5)...)), false},
		{expPart(call("a")), false}, {expPart(call("a", l(1)...)), true}, {expPart(call("a", l(8)...)), true}, {expPart(call("a", l(9)...)), false},
		{expPart(api.Exp{Kind: api.ExOne, Op: api.OpNeg}), false}, {expPart(api.Exp{Kind: api.ExOne, Op: api.OpNeg, Args: l(2)}), false},
		{expPart(api.Exp{Kind: api.ExTwo, Op: api.OpMul, Args: l(1)}), false}, {expPart(api.Exp{Kind: api.ExTwo, Op: api.OpMul, Args: l(3)}), false},
		{expPart(api.Exp{Kind: api.ExIf, Args: l(2)}), false}, {expPart(api.Exp{Kind: api.ExIf, Args: l(4)}), false},
		{expPart(api.Exp{Kind: api.ExName, Text: "a", Args: l(1)}), false}, {expPart(api.Exp{Kind: api.ExInt, Args: l(1)}), false},
		{elemPart(api.Elem{Kind: api.FeOnce, Exps: l(2)}), false}, {elemPart(api.Elem{Kind: api.FeStep, Exps: l(2)}), false}, {elemPart(api.Elem{Kind: api.FeWhile, Exps: l(3)}), false}, {elemPart(api.Elem{Kind: api.FeOnce}), false},
		{stmtPart(invoke("p", l(8)...)), true}, {stmtPart(invoke("p", l(9)...)), false}, {stmtPart(assign(a)), false}, {stmtPart(assign(a, l(50)...)), true},
		{stmtPart(when(a)), false}, {stmtPart(when(a, empty(), empty())), true}, {stmtPart(when(a, empty(), empty(), empty())), false},
		{stmtPart(loop(a, empty())), false}, {stmtPart(block(nil, empty())), false}, {stmtPart(block(decls(variables(1, "v")))), false}, {stmtPart(list()), false},
		{declPart(variables(1)), false}, {declPart(arrays(1, nil, l(2)...)), false}, {declPart(arrays(1, []string{"v"})), false},
		{declPart(arrays(1, []string{"v"}, l(1)...)), false}, {declPart(arrays(1, []string{"v"}, l(2)...)), true}, {declPart(arrays(1, []string{"v"}, l(3)...)), false}, {declPart(arrays(1, []string{"v"}, l(4)...)), true}, {declPart(arrays(1, []string{"v"}, l(6)...)), true},
		{declPart(arrays(1, []string{"v"}, l(7)...)), false}, {declPart(arrays(1, []string{"v"}, l(8)...)), true}, {declPart(arrays(1, []string{"v"}, l(9)...)), false}, {declPart(arrays(1, []string{"v"}, l(10)...)), false},
		{declPart(switches("s")), false}, {declPart(switches("s", l(100)...)), true},
	} {
		want := api.ErrArg
		if x.valid {
			want = api.OK
		}
		wantCheck(t, x.p, want)
	}
}

// P4.1: the fields that are no lists. Each of them must be zero where the tables do not name it.
func TestValues(t *testing.T) {
	values := map[string][]any{
		"N":    {0, 1, -1, api.MaxInt, api.MaxInt + 1, -api.MaxInt, 1 << 62, -1 << 63},
		"Op":   {-1, 0, 1, 2, 3, 4, 9, 17, 18, 19, 1 << 40, -1 << 63},
		"Real": {api.Real{}, number("1.5").Real, number("1e-45").Real, api.Real{Man: 1, Exp: api.MinExp}, api.Real{Man: 1<<24 - 1, Exp: api.MaxExp}, api.Real{Man: -1 << 23}, api.Real{Man: -1, Exp: api.MinExp}, api.Real{Man: 5}, api.Real{Exp: 1}, api.Real{Man: 1 << 24}, api.Real{Man: 1 << 23, Exp: api.MaxExp + 1}},
		"Text": {"", "a", "x1", "abcdefghijklmnop", "abcdefghijklmnopq", "1", "1a", "A", "a b", "a_", "if", "comment", "\"", "a\"b", "\x1f", " ", "~", "\x7f", "\x80", "é", "\n", strings.Repeat("s", 80), strings.Repeat("s", 81), strings.Repeat("s", 1<<20)},
		"Own":  {false, true},
		"Type": {-1, 0, 1, 2, 3, 4, 1 << 40, -1 << 63},
	}
	for _, p := range right() {
		v := reflect.ValueOf(content(p))
		for i := range v.NumField() {
			field := v.Type().Field(i).Name
			for _, value := range values[field] {
				other := withField(p, field, value)
				wantCheck(t, other, errorOf(other))
			}
		}
	}
}

// P4.1: some of these values, by themselves.
func TestValuesOfTheTables(t *testing.T) {
	for _, p := range []api.Part{
		expPart(num(-1)), expPart(num(api.MaxInt + 1)), expPart(api.Exp{Kind: api.ExReal, Real: api.Real{Man: -1 << 23}}), expPart(api.Exp{Kind: api.ExReal, Real: api.Real{Man: 3}}), expPart(api.Exp{Kind: api.ExReal, Real: api.Real{Exp: 3}}),
		expPart(quoted(strings.Repeat("x", 81))), expPart(quoted("a\"b")), expPart(quoted("a\nb")), expPart(name("")), expPart(name("1x")), expPart(name("step")), expPart(name("abcdefghijklmnopq")), expPart(index("if", num(1))), expPart(call("X", num(1))),
		expPart(one(api.OpAdd, num(1))), expPart(one(0, num(1))), expPart(two(api.OpNeg, num(1), num(1))), expPart(two(api.OpNot, num(1), num(1))), expPart(two(0, num(1), num(1))), expPart(two(19, num(1), num(1))),
		expPart(api.Exp{Kind: api.ExTrue, N: 1}), expPart(api.Exp{Kind: api.ExFalse, Text: "false"}), expPart(api.Exp{Kind: api.ExName, Text: "a", Op: 1}), expPart(api.Exp{Kind: api.ExInt, N: 1, Real: number("1.0").Real}),
		stmtPart(invoke("")), stmtPart(invoke("do")), stmtPart(api.Stmt{Kind: api.StEmpty, Text: "a"}), stmtPart(empty("end")), stmtPart(empty("a", "")), stmtPart(labelled(list(empty()), "a", "b", "1")),
		stmtPart(assign(num(1), call("f", num(1)))), stmtPart(assign(num(1), name("a"), num(2))), stmtPart(assign(num(1), quoted("a"))), stmtPart(loop(call("f", num(1)), empty(), once(num(1)))), stmtPart(loop(num(1), empty(), once(num(1)))),
		stmtPart(when(truth(true), when(truth(true), empty()))), stmtPart(when(truth(true), loop(name("x"), empty(), once(num(1))), empty())), stmtPart(when(truth(true), labelled(when(truth(true), empty()), "l"))),
		declPart(variables(api.TyNone, "v")), declPart(variables(4, "v")), declPart(variables(1, "v", "")), declPart(variables(1, "own")), declPart(own(switches("s", num(1)))), declPart(own(proc(1, "p", empty()))), declPart(api.Decl{Kind: api.DeSwitch, Type: 1, Names: []string{"s"}, Exps: []api.Exp{num(1)}}),
		declPart(proc(4, "p", empty())), declPart(proc(-1, "p", empty())), declPart(arrays(api.TyNone, []string{"v"}, num(1), num(2))), declPart(switches("1", num(1))),
	} {
		wantCheck(t, p, api.ErrArg)
	}
	for _, p := range []api.Part{
		expPart(num(api.MaxInt)), expPart(api.Exp{Kind: api.ExReal}), expPart(quoted(strings.Repeat("~", 80))), expPart(quoted(" ")), expPart(name("abcdefghijklmnop")), expPart(one(api.OpNot, num(1))), expPart(two(api.OpEqv, num(1), quoted("a"))),
		stmtPart(empty("a", "a")), stmtPart(assign(num(1), name("a"), index("a", num(1)), name("a"))), stmtPart(when(num(1), labelled(list(when(num(1), empty())), "l"), when(num(1), empty()))), stmtPart(when(num(1), jump(num(1)), loop(name("x"), empty(), once(num(1))))),
		declPart(own(variables(api.TyBool, "v", "v"))), declPart(own(arrays(api.TyReal, []string{"v"}, num(1), num(2)))), declPart(proc(api.TyBool, "p", when(num(1), empty()))),
	} {
		wantCheck(t, p, api.OK)
	}
}

// P4.1: all formal parameters of all specifications.
func TestFormals(t *testing.T) {
	for spec := -1; spec <= 7; spec++ {
		for typ := -1; typ <= 4; typ++ {
			for _, value := range []bool{false, true} {
				f := api.Formal{Name: "f", Spec: spec, Type: typ, Value: value}
				p := declPart(proc(api.TyInt, "p", empty(), formal("g", 0, 0), f))
				wantCheck(t, p, errorOf(p))
			}
		}
	}
	wantCheck(t, declPart(proc(0, "p", empty(), byValue(formal("x", api.SpArray, api.TyNone)))), api.ErrArg)
	wantCheck(t, declPart(proc(0, "p", empty(), byValue(formal("x", api.SpArray, api.TyInt)))), api.OK)
	wantCheck(t, declPart(proc(0, "p", empty(), byValue(formal("x", api.SpNone, api.TyNone)))), api.ErrArg)
	wantCheck(t, declPart(proc(0, "p", empty(), byValue(formal("x", api.SpProc, api.TyInt)))), api.ErrArg)
	wantCheck(t, declPart(proc(0, "p", empty(), formal("x", api.SpVar, api.TyNone))), api.ErrArg)
	wantCheck(t, declPart(proc(0, "p", empty(), formal("x", api.SpLabel, api.TyInt))), api.ErrArg)
	for _, s := range []string{"", "end", "1", "abcdefghijklmnopq", "a b"} {
		wantCheck(t, declPart(proc(0, "p", empty(), formal(s, 0, 0))), api.ErrArg)
	}
	wantCheck(t, declPart(proc(0, "p", empty(), formal("x", 0, 0), formal("y", 0, 0), formal("x", api.SpLabel, 0))), api.ErrArg)
	wantCheck(t, declPart(proc(0, "p", empty(), formal("x", 0, 0), formal("y", 0, 0), formal("y", 0, 0))), api.ErrArg)
	wantCheck(t, declPart(proc(0, "p", empty(), formal("p", 0, 0), formal("y", 0, 0))), api.OK)
}

// P4.1: a part is not valid if a part in it is not.
func TestDeepErrors(t *testing.T) {
	wrong := []api.Part{stmtPart(empty("1")), declPart(variables(0, "v")), elemPart(api.Elem{Kind: api.FeOnce}), expPart(num(-1))}
	m := newMaker(1)
	placed := 0
	for _, s := range m.stmts(150) {
		whole := stmtPart(s)
		for _, path := range pathsOf(whole) {
			p, _ := partAt(whole, path)
			wantCheck(t, replaced(whole, path, wrong[p.Kind-1]), api.ErrArg)
			placed++
		}
	}
	if placed < 3000 {
		t.Errorf("%d errors only", placed)
	}
}

// P4.1: parts made by chance, in which one field has been changed by chance.
func TestMutants(t *testing.T) {
	m := newMaker(2)
	count := map[api.Errno]int{}
	for range 12000 {
		kind := pick(m, api.PaStmt, api.PaDecl, api.PaExp)
		whole := m.part(kind, 1+m.Intn(5))
		path := pick(m, pathsOf(whole)...)
		p, _ := partAt(whole, path)
		mutant := replaced(whole, path, m.mutant(p))
		want := errorOf(mutant)
		wantCheck(t, mutant, want)
		count[want]++
	}
	if count[api.OK] < 1000 || count[api.ErrArg] < 3000 {
		t.Errorf("%v", count)
	}
}

// mutant changes a field of a part: a number or a text becomes another one, a list gets longer or shorter.
func (m maker) mutant(p api.Part) api.Part {
	v := reflect.New(reflect.TypeOf(content(p))).Elem()
	v.Set(reflect.ValueOf(content(p)))
	f := v.Field(m.Intn(v.NumField()))
	switch f.Kind() {
	case reflect.Int:
		f.SetInt(f.Int() + int64(pick(m, -1, 1, 2)))
	case reflect.Bool:
		f.SetBool(!f.Bool())
	case reflect.String:
		f.SetString(pick(m, "", "b", "if", "1", " "))
	case reflect.Struct:
		f.Set(reflect.ValueOf(pick(m, api.Real{}, number("1.5").Real, api.Real{Man: -1 << 23})))
	case reflect.Slice:
		if f.Len() > 0 && m.Intn(2) == 0 {
			f.Set(f.Slice(0, f.Len()-1))
		} else {
			f.Set(reflect.Append(f.Slice3(0, f.Len(), f.Len()), m.element(f.Type().Elem())))
		}
	}
	return partOf(v.Interface())
}

// element makes an element of a list.
func (m maker) element(t reflect.Type) reflect.Value {
	switch t {
	case reflect.TypeFor[string]():
		return reflect.ValueOf(pick(m, "k", "a", "if", ""))
	case reflect.TypeFor[api.Formal]():
		return reflect.ValueOf(pick(m, m.formal("a"), m.formal("p"), formal("", 0, 0), formal("h", 9, 0)))
	case reflect.TypeFor[api.Stmt]():
		return reflect.ValueOf(m.stmt(2))
	case reflect.TypeFor[api.Decl]():
		return reflect.ValueOf(m.decl(2))
	case reflect.TypeFor[api.Elem]():
		return reflect.ValueOf(m.elem(2))
	}
	return reflect.ValueOf(m.exp(2))
}

// P4.1: Program.
func TestProgram(t *testing.T) {
	for _, p := range right() {
		if p.Kind != api.PaStmt {
			continue
		}
		want := api.ErrKind
		if p.Stmt.Kind == api.StBlock || p.Stmt.Kind == api.StList {
			want = api.OK
		}
		for _, s := range []api.Stmt{p.Stmt, labelled(p.Stmt, "l", "m")} {
			if e := tree.Program(s); e != want {
				t.Errorf("Program(%v): error %d; want %d", s, e, want)
			}
		}
	}
	for _, x := range []struct {
		s    api.Stmt
		want api.Errno
	}{
		{api.Stmt{}, api.ErrArg}, {list(), api.ErrArg}, {list(empty("if")), api.ErrArg}, {empty("if"), api.ErrArg}, {jump(num(-1)), api.ErrArg}, {api.Stmt{Kind: 9, Body: []api.Stmt{empty()}}, api.ErrArg},
		{nested(59), api.OK}, {nested(60), api.ErrLimit}, {row(2000), api.OK}, {row(2001), api.ErrLimit}, {jump(chain(60)), api.ErrLimit}, {jump(chain(59)), api.ErrKind}, {empty(make([]string, 2000)...), api.ErrLimit},
	} {
		if e := tree.Program(x.s); e != x.want {
			t.Errorf("Program(%s): error %d; want %d", short(x.s), e, x.want)
		}
	}
}
