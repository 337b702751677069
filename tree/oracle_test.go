package tree_test

import (
	"reflect"
	"slices"
	"strings"

	"manorboy/api"
	"manorboy/lex"
	"manorboy/real"
)

// A second reading of the chapter: its tables as rows of words, and its terms by reflection on the fields of parts.

// childFields are the fields with the children of each kind of parts, in the order of the chapter.
var childFields = map[int][]string{
	api.PaStmt: {"Targets", "Exps", "For", "Decls", "Body"},
	api.PaDecl: {"Exps", "Body"},
	api.PaElem: {"Exps"},
	api.PaExp:  {"Args"},
}

// partOf returns a statement, a declaration, an element or an expression as a part.
func partOf(x any) api.Part {
	switch y := x.(type) {
	case api.Stmt:
		return stmtPart(y)
	case api.Decl:
		return declPart(y)
	case api.Elem:
		return elemPart(y)
	}
	return expPart(x.(api.Exp))
}

// content returns the field of a part that belongs to its kind.
func content(p api.Part) any {
	switch p.Kind {
	case api.PaStmt:
		return p.Stmt
	case api.PaDecl:
		return p.Decl
	case api.PaElem:
		return p.Elem
	}
	return p.Exp
}

// kids returns the children of a part.
func kids(p api.Part) []api.Part {
	var l []api.Part
	v := reflect.ValueOf(content(p))
	for _, field := range childFields[p.Kind] {
		list := v.FieldByName(field)
		for i := range list.Len() {
			l = append(l, partOf(list.Index(i).Interface()))
		}
	}
	return l
}

// withKid returns a part with another child, of the same kind, at an index.
func withKid(p api.Part, at int, kid api.Part) api.Part {
	copied := reflect.New(reflect.TypeOf(content(p))).Elem()
	copied.Set(reflect.ValueOf(content(p)))
	for _, field := range childFields[p.Kind] {
		old := copied.FieldByName(field)
		if at >= 0 && at < old.Len() {
			list := reflect.MakeSlice(old.Type(), old.Len(), old.Len())
			reflect.Copy(list, old)
			list.Index(at).Set(reflect.ValueOf(content(kid)))
			old.Set(list)
		}
		at -= old.Len()
	}
	return partOf(copied.Interface())
}

// replaced returns a part with another one at a path.
func replaced(p api.Part, path []int, other api.Part) api.Part {
	if len(path) == 0 {
		return other
	}
	return withKid(p, path[0], replaced(kids(p)[path[0]], path[1:], other))
}

// partAt returns the part with a path, if there is one.
func partAt(p api.Part, path []int) (api.Part, bool) {
	for _, i := range path {
		l := kids(p)
		if i < 0 || i >= len(l) {
			return api.Part{}, false
		}
		p = l[i]
	}
	return p, true
}

// pathsOf returns the paths of all parts of a part.
func pathsOf(p api.Part) [][]int {
	paths := [][]int{{}}
	for i, kid := range kids(p) {
		for _, path := range pathsOf(kid) {
			paths = append(paths, append([]int{i}, path...))
		}
	}
	return paths
}

// ownSizeOf returns the size of a part without its children.
func ownSizeOf(p api.Part) int {
	return 1 + len(p.Stmt.Labels) + len(p.Decl.Names) + len(p.Decl.Formals)
}

func sizeOf(p api.Part) int {
	size := ownSizeOf(p)
	for _, kid := range kids(p) {
		size += sizeOf(kid)
	}
	return size
}

func depthOf(p api.Part) int {
	depth := 0
	for _, kid := range kids(p) {
		depth = max(depth, depthOf(kid))
	}
	return 1 + depth
}

// rows are the chapter's tables: for each kind, the fields that can be other than zero; for lists with the lengths that they can have.
var rows = map[int]map[int]string{
	api.PaExp: {
		api.ExInt:    "N",
		api.ExReal:   "Real",
		api.ExTrue:   "",
		api.ExFalse:  "",
		api.ExString: "Text",
		api.ExName:   "Text",
		api.ExIndex:  "Text Args:1,2,3,4",
		api.ExCall:   "Text Args:1,2,3,4,5,6,7,8",
		api.ExOne:    "Op Args:1",
		api.ExTwo:    "Op Args:2",
		api.ExIf:     "Args:3",
	},
	api.PaElem: {
		api.FeOnce:  "Exps:1",
		api.FeStep:  "Exps:3",
		api.FeWhile: "Exps:2",
	},
	api.PaStmt: {
		api.StEmpty:  "Labels",
		api.StAssign: "Labels Targets:+ Exps:1",
		api.StGoto:   "Labels Exps:1",
		api.StIf:     "Labels Exps:1 Body:1,2",
		api.StFor:    "Labels Targets:1 For:+ Body:1",
		api.StCall:   "Labels Text Exps:0,1,2,3,4,5,6,7,8",
		api.StBlock:  "Labels Decls:+ Body:+",
		api.StList:   "Labels Body:+",
	},
	api.PaDecl: {
		api.DeVar:    "Own Type Names:+",
		api.DeArray:  "Own Type Names:+ Exps:2,4,6,8",
		api.DeSwitch: "Names:1 Exps:+",
		api.DeProc:   "Type Names:1 Formals:0,1,2,3,4,5,6,7,8 Body:1",
	},
}

// lengthIs reports whether a list can have a length: "+" is one or more.
func lengthIs(rule string, length int) bool {
	if rule == "+" {
		return length > 0
	}
	return slices.Contains(strings.Split(rule, ","), string(rune('0'+length))) && length < 10
}

// isRight reports whether a part and all of its children are valid.
func isRight(p api.Part) bool {
	v := reflect.ValueOf(content(p))
	row, known := rows[p.Kind][int(v.FieldByName("Kind").Int())]
	if !known || !fieldsAreRight(v, row) || !valuesAreRight(p) {
		return false
	}
	for _, kid := range kids(p) {
		if !isRight(kid) {
			return false
		}
	}
	return true
}

// fieldsAreRight reports whether no field is other than zero that the row does not name, and the lists have their lengths.
func fieldsAreRight(v reflect.Value, row string) bool {
	allowed := map[string]string{"Kind": ""}
	for _, field := range strings.Fields(row) {
		key, rule, _ := strings.Cut(field, ":")
		allowed[key] = rule
	}
	for i := range v.NumField() {
		rule, ok := allowed[v.Type().Field(i).Name]
		f := v.Field(i)
		isList := f.Kind() == reflect.Slice
		switch {
		case !ok && isList && f.Len() > 0, !ok && !isList && !f.IsZero():
			return false
		case rule != "" && !lengthIs(rule, f.Len()):
			return false
		}
	}
	return true
}

// valuesAreRight reports whether the values of the fields, of those that may be other than zero, are valid.
func valuesAreRight(p api.Part) bool {
	switch p.Kind {
	case api.PaStmt:
		return stmtValues(p.Stmt)
	case api.PaDecl:
		return declValues(p.Decl)
	case api.PaExp:
		return expValues(p.Exp)
	}
	return true
}

func allNames(l []string) bool {
	for _, s := range l {
		if !lex.IsName(s) {
			return false
		}
	}
	return true
}

func expValues(e api.Exp) bool {
	switch e.Kind {
	case api.ExInt:
		return 0 <= e.N && e.N <= 2147483647
	case api.ExReal:
		return real.Valid(e.Real) && e.Real.Man >= 0
	case api.ExString:
		for i := range len(e.Text) {
			if b := e.Text[i]; b < 32 || b > 126 || b == 34 {
				return false
			}
		}
		return len(e.Text) <= 80
	case api.ExName, api.ExIndex, api.ExCall:
		return lex.IsName(e.Text)
	case api.ExOne:
		return e.Op == 1 || e.Op == 2
	case api.ExTwo:
		return 3 <= e.Op && e.Op <= 18
	}
	return true
}

func stmtValues(s api.Stmt) bool {
	for _, target := range s.Targets {
		if target.Kind != api.ExName && target.Kind != api.ExIndex {
			return false
		}
	}
	if s.Kind == api.StIf && (s.Body[0].Kind == api.StIf || s.Body[0].Kind == api.StFor) {
		return false
	}
	return allNames(s.Labels) && (s.Kind != api.StCall || lex.IsName(s.Text))
}

func declValues(d api.Decl) bool {
	if d.Type < 0 || d.Type > 3 || d.Type == 0 && (d.Kind == api.DeVar || d.Kind == api.DeArray) {
		return false
	}
	seen := map[string]bool{}
	for _, f := range d.Formals {
		if seen[f.Name] || !formalIsRight(f) {
			return false
		}
		seen[f.Name] = true
	}
	return allNames(d.Names)
}

func formalIsRight(f api.Formal) bool {
	types := map[int]string{api.SpNone: "0", api.SpVar: "123", api.SpArray: "0123", api.SpLabel: "0", api.SpSwitch: "0", api.SpString: "0", api.SpProc: "0123"}[f.Spec]
	if f.Type < 0 || f.Type > 3 || !strings.Contains(types, string(rune('0'+f.Type))) {
		return false
	}
	canBeValue := (f.Spec == api.SpVar || f.Spec == api.SpArray) && f.Type != api.TyNone
	return lex.IsName(f.Name) && (canBeValue || !f.Value)
}

// errorOf returns what Check has to return for a part that is finite.
func errorOf(p api.Part) api.Errno {
	switch {
	case sizeOf(p) > 2000 || depthOf(p) > 60:
		return api.ErrLimit
	case !isRight(p):
		return api.ErrArg
	}
	return api.OK
}

// equal reports whether two values are equal in all fields, where a nil list is equal to an empty one.
func equal(a, b any) bool {
	return equalValues(reflect.ValueOf(a), reflect.ValueOf(b))
}

func equalValues(a, b reflect.Value) bool {
	switch a.Kind() {
	case reflect.Struct:
		for i := range a.NumField() {
			if !equalValues(a.Field(i), b.Field(i)) {
				return false
			}
		}
		return true
	case reflect.Slice:
		if a.Len() != b.Len() {
			return false
		}
		for i := range a.Len() {
			if !equalValues(a.Index(i), b.Index(i)) {
				return false
			}
		}
		return true
	}
	return a.Equal(b)
}

// identifiers returns the identifiers of a part and of its children, once each, ascending.
func identifiers(p api.Part) []string {
	seen := map[string]bool{}
	var collect func(p api.Part)
	collect = func(p api.Part) {
		own := slices.Concat(p.Stmt.Labels, p.Decl.Names)
		for _, f := range p.Decl.Formals {
			own = append(own, f.Name)
		}
		switch {
		case p.Kind == api.PaStmt && p.Stmt.Kind == api.StCall:
			own = append(own, p.Stmt.Text)
		case p.Kind == api.PaExp && p.Exp.Kind >= api.ExName && p.Exp.Kind <= api.ExCall:
			own = append(own, p.Exp.Text)
		}
		for _, s := range own {
			seen[s] = true
		}
		for _, kid := range kids(p) {
			collect(kid)
		}
	}
	collect(p)
	var l []string
	for s := range seen {
		l = append(l, s)
	}
	slices.Sort(l)
	return l
}
