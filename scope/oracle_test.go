package scope_test

import (
	"cmp"
	"fmt"
	"slices"
	"strings"
	"testing"

	"manorboy/api"
	"manorboy/scope"
	"manorboy/tree"
)

// A second reading of the chapter, as near to its words as can be: scopes are sets of parts, and of those inside of which a part is the smallest one is the innermost one.

// region is a scope: what it declares, and the numbers of the parts that are inside. Of regions with the same parts, the one of the higher rank is inside of the other one.
type region struct {
	names   []string
	places  []api.Place
	inside  map[int]bool
	rank    int
	counted bool // that of a StBlock or of a DeProc
	proc    int  // the number of the DeProc whose scope it is, or -1
}

// reading is a statement as the second reading sees it.
type reading struct {
	paths   [][]int
	parts   []api.Part
	numbers map[string]int // of the parts with the paths as texts
	regions []region
}

func read(t *testing.T, s api.Stmt) *reading {
	t.Helper()
	r := &reading{numbers: map[string]int{}}
	r.paths, r.parts = partsOf(t, s)
	for i, path := range r.paths {
		r.numbers[fmt.Sprint(path)] = i
	}
	standard := region{proc: -1, inside: r.insideOf(0)}
	for i, name := range []string{"outinteger", "outreal", "outboolean", "outstring", "inint", "abs", "sign", "entier"} {
		standard.add(name, api.Place{Kind: api.BiStandard, Node: -1, At: i})
	}
	r.regions = append(r.regions, standard)
	r.addList(0)
	for number, p := range r.parts {
		r.addRegions(number, p)
	}
	return r
}

func (g *region) add(name string, place api.Place) {
	g.names = append(g.names, name)
	g.places = append(g.places, place)
}

// childrenOf returns the numbers of the children with the indices from a first one up to, but not including, another one.
func (r *reading) childrenOf(number, from, to int) []int {
	var l []int
	for i := from; i < to; i++ {
		l = append(l, r.numbers[fmt.Sprint(append(slices.Clone(r.paths[number]), i))])
	}
	return l
}

// insideOf returns the numbers of some parts and of all of their parts.
func (r *reading) insideOf(numbers ...int) map[int]bool {
	inside := map[int]bool{}
	for i := range r.paths {
		if slices.ContainsFunc(numbers, func(n int) bool { return r.isIn(i, n) }) {
			inside[i] = true
		}
	}
	return inside
}

// isIn reports whether a part is another one, or one of its parts.
func (r *reading) isIn(number, above int) bool {
	path, start := r.paths[number], r.paths[above]
	return len(path) >= len(start) && slices.Equal(path[:len(start)], start)
}

// isBelow reports whether a part is in another one.
func (r *reading) isBelow(number, above int) bool { return number != above && r.isIn(number, above) }

// addList adds the scope of a list of statements with these numbers.
func (r *reading) addList(numbers ...int) {
	g := region{proc: -1, rank: 2, inside: r.insideOf(numbers...)}
	r.addLabels(&g, numbers)
	r.regions = append(r.regions, g)
}

func (r *reading) addLabels(g *region, numbers []int) {
	for _, n := range numbers {
		for i, label := range r.parts[n].Stmt.Labels {
			g.add(label, api.Place{Kind: api.BiLabel, Node: n, At: i})
		}
	}
}

// addRegions adds the scopes that the part with a number brings with it.
func (r *reading) addRegions(number int, p api.Part) {
	s, d := p.Stmt, p.Decl
	ahead := len(s.Targets) + len(s.Exps) + len(s.For)
	switch {
	case p.Kind == api.PaStmt && s.Kind == api.StBlock:
		g := region{proc: -1, counted: true}
		decls := r.childrenOf(number, 0, len(s.Decls))
		body := r.childrenOf(number, len(s.Decls), len(s.Decls)+len(s.Body))
		g.inside = r.insideOf(slices.Concat(decls, body)...)
		for _, n := range decls {
			kind := map[int]int{api.DeVar: api.BiVar, api.DeArray: api.BiArray, api.DeSwitch: api.BiSwitch, api.DeProc: api.BiProc}[r.parts[n].Decl.Kind]
			for i, name := range r.parts[n].Decl.Names {
				g.add(name, api.Place{Kind: kind, Node: n, At: i})
			}
			if kind == api.BiArray {
				for bound := range r.insideOf(r.childrenOf(n, 0, len(r.parts[n].Decl.Exps))...) {
					delete(g.inside, bound)
				}
			}
		}
		r.addLabels(&g, body)
		r.regions = append(r.regions, g)
	case p.Kind == api.PaStmt && s.Kind == api.StList:
		r.addList(r.childrenOf(number, ahead, ahead+len(s.Body))...)
	case p.Kind == api.PaStmt && (s.Kind == api.StIf || s.Kind == api.StFor):
		for _, n := range r.childrenOf(number, ahead, ahead+len(s.Body)) {
			r.addList(n)
		}
	case p.Kind == api.PaDecl && d.Kind == api.DeProc:
		body := r.childrenOf(number, 0, 1)
		g := region{proc: number, counted: true, rank: 1, inside: r.insideOf(body...)}
		for i, f := range d.Formals {
			g.add(f.Name, api.Place{Kind: api.BiFormal, Node: number, At: i})
		}
		r.regions = append(r.regions, g)
		r.addList(body...)
	}
}

// around returns the scopes inside of which a part is, from the innermost to the outermost one.
func (r *reading) around(number int) []region {
	var l []region
	for _, g := range r.regions {
		if g.inside[number] {
			l = append(l, g)
		}
	}
	slices.SortStableFunc(l, func(a, b region) int {
		return cmp.Or(cmp.Compare(len(a.inside), len(b.inside)), cmp.Compare(b.rank, a.rank))
	})
	return l
}

// lookup returns the place of what an identifier denotes at a part.
func (r *reading) lookup(number int, name string) api.Place {
	for _, g := range r.around(number) {
		if i := slices.Index(g.names, name); i >= 0 {
			return g.places[i]
		}
	}
	return api.Place{}
}

// occurrenceOf returns the identifier (if it is an occurrence), the kind and the number of Args or Exps of a part.
func occurrenceOf(p api.Part) (name, kind string, args int) {
	switch {
	case p.Kind == api.PaStmt && p.Stmt.Kind == api.StCall:
		return p.Stmt.Text, "StCall", len(p.Stmt.Exps)
	case p.Kind == api.PaExp:
		kinds := [...]string{"", "ExInt", "ExReal", "ExTrue", "ExFalse", "ExString", "ExName", "ExIndex", "ExCall", "ExOne", "ExTwo", "ExIf"}
		if k := p.Exp.Kind; k == api.ExName || k == api.ExIndex || k == api.ExCall {
			return p.Exp.Text, kinds[k], len(p.Exp.Args)
		}
		return "", kinds[p.Exp.Kind], 0
	}
	return "", "", 0
}

func (r *reading) uses() []api.Use {
	var uses []api.Use
	for number, p := range r.parts {
		if name, _, _ := occurrenceOf(p); name != "" {
			uses = append(uses, api.Use{Node: number, Name: name, Place: r.lookup(number, name)})
		}
	}
	return uses
}

// places returns the places of all declarations in s.
func (r *reading) places() []api.Place {
	var l []api.Place
	for _, g := range r.regions[1:] {
		l = append(l, g.places...)
	}
	slices.SortFunc(l, func(a, b api.Place) int {
		return cmp.Or(cmp.Compare(a.Node, b.Node), cmp.Compare(a.Kind, b.Kind), cmp.Compare(a.At, b.At))
	})
	return l
}

// position returns the position of an expression.
func (r *reading) position(number int) string {
	path := r.paths[number]
	above, last := r.numbers[fmt.Sprint(path[:len(path)-1])], path[len(path)-1]
	p := r.parts[above]
	switch {
	case p.Kind == api.PaStmt && last < len(p.Stmt.Targets):
		return "target"
	case p.Kind == api.PaStmt && p.Stmt.Kind == api.StGoto, p.Kind == api.PaDecl && p.Decl.Kind == api.DeSwitch:
		return "goal"
	case p.Kind == api.PaStmt && p.Stmt.Kind == api.StCall, p.Kind == api.PaExp && p.Exp.Kind == api.ExCall:
		return "actual"
	case p.Kind == api.PaExp && p.Exp.Kind == api.ExIf && last > 0:
		return strings.Replace(r.position(above), "actual", "choice", 1)
	}
	return "value"
}

// The chapter's table.
const table = `
ExInt, ExReal, ExTrue, ExFalse, ExOne, ExTwo | value, actual, choice | always
ExString | actual | always
ExIf | all | always
ExName | value, target, actual, choice | a variable
ExName | actual | an array, a switch, a procedure, a standard procedure
ExName | goal, actual, choice | a label
ExName | value, choice | a function without parameters
ExName | target | a function, if the part is a part of the statement of its Body
ExIndex | value, target, actual, choice | an array with as many dimensions as there are Args
ExIndex | goal, actual, choice | a switch, and there is one element of Args
ExCall | value, actual, choice | a function with as many parameters as there are Args
StCall | | a procedure or a function with as many parameters as there are Exps
ExName, ExIndex, StCall | all | a formal parameter that is called by name
ExCall | value, actual, choice | a formal parameter that is called by name
`

// meant is what is declared at a place, in the words of the table, with the numbers of its subscripts or parameters that would do.
type meant struct {
	what  []string
	count []int
}

func (r *reading) meant(p api.Place, args int) meant {
	if p.Kind == api.BiStandard {
		switch {
		case p.At < 4:
			return meant{[]string{"a standard procedure", "a procedure"}, []int{1}}
		case p.At == 4:
			return meant{[]string{"a standard procedure", "a procedure", "a function"}, []int{0}}
		}
		return meant{[]string{"a standard procedure", "a procedure", "a function"}, []int{1}}
	}
	d := r.parts[p.Node].Decl
	switch p.Kind {
	case api.BiLabel:
		return meant{[]string{"a label"}, []int{0}}
	case api.BiVar:
		return meant{[]string{"a variable"}, []int{0}}
	case api.BiArray:
		return meant{[]string{"an array"}, []int{len(d.Exps) / 2}}
	case api.BiSwitch:
		return meant{[]string{"a switch"}, []int{1}}
	case api.BiProc:
		if d.Type != api.TyNone {
			return meant{[]string{"a procedure", "a function"}, []int{len(d.Formals)}}
		}
		return meant{[]string{"a procedure"}, []int{len(d.Formals)}}
	}
	switch f := d.Formals[p.At]; {
	case f.Value && f.Spec == api.SpVar:
		return meant{[]string{"a variable"}, []int{0}}
	case f.Value:
		return meant{[]string{"an array"}, []int{0, 1, 2, 3, 4}}
	}
	return meant{[]string{"a formal parameter that is called by name"}, []int{args}}
}

// fits reports whether something is what a row of the table says is right, and if not, whether only a number is another one.
func (r *reading) fits(right string, number int, place api.Place, args int) (fits, counts bool) {
	if right == "always" {
		return true, false
	}
	if place == (api.Place{}) { // no occurrence
		return false, false
	}
	m := r.meant(place, args)
	counted := strings.Contains(right, " with as many ") || strings.Contains(right, " without ") || strings.Contains(right, "one element")
	words := right
	for _, end := range []string{" with as many ", " without ", ", and there", ", if the part"} {
		words, _, _ = strings.Cut(words, end)
	}
	isOne := func(w string) bool { return slices.Contains(m.what, strings.TrimSpace(w)) }
	if !slices.ContainsFunc(strings.Split(strings.ReplaceAll(words, " or ", ", "), ","), isOne) {
		return false, false
	}
	if strings.Contains(right, "if the part") && (place.Node < 0 || !r.isBelow(number, place.Node)) {
		return false, false
	}
	if counted && !slices.Contains(m.count, args) {
		return false, true
	}
	return true, false
}

// judged returns what the table says of the part with a number: 0, PrKind or PrCount.
func (r *reading) judged(number int, place api.Place) int {
	_, kind, args := occurrenceOf(r.parts[number])
	position := ""
	if kind != "StCall" {
		position = r.position(number)
	}
	problem := api.PrKind
	for _, line := range strings.Split(strings.TrimSpace(table), "\n") {
		row := strings.Split(line, "|")
		parts, positions := strings.TrimSpace(row[0]), strings.TrimSpace(row[1])
		if !slices.Contains(strings.Split(parts, ", "), kind) || positions != "all" && !slices.Contains(strings.Split(positions, ", "), position) {
			continue
		}
		fits, counts := r.fits(strings.TrimSpace(row[2]), number, place, args)
		if fits {
			return 0
		}
		if counts {
			problem = api.PrCount
		}
	}
	return problem
}

// isBound reports whether a part is in a bound of an array of a block that declares an identifier.
func (r *reading) isBound(number int, name string) bool {
	for above, p := range r.parts {
		if p.Kind != api.PaDecl || p.Decl.Kind != api.DeArray || !r.isBelow(number, above) {
			continue
		}
		for _, g := range r.regions {
			if g.counted && g.proc < 0 && g.inside[above] && slices.ContainsFunc(g.places, func(p api.Place) bool { return p.Node == above && p.Kind == api.BiArray }) {
				return slices.Contains(g.names, name)
			}
		}
	}
	return false
}

func (r *reading) problems() []api.Problem {
	var problems []api.Problem
	for _, place := range r.places() {
		for _, g := range r.regions {
			if i := slices.Index(g.places, place); i >= 0 && slices.Contains(g.names[:i], g.names[i]) {
				problems = append(problems, api.Problem{Kind: api.PrTwice, Node: place.Node, Name: g.names[i]})
			}
		}
	}
	for number, p := range r.parts {
		name, kind, _ := occurrenceOf(p)
		place := r.lookup(number, name)
		switch {
		case kind == "":
		case name != "" && r.isBound(number, name):
			problems = append(problems, api.Problem{Kind: api.PrBound, Node: number, Name: name})
		case name != "" && place == api.Place{}:
			problems = append(problems, api.Problem{Kind: api.PrUnknown, Node: number, Name: name})
		default:
			if problem := r.judged(number, place); problem != 0 {
				problems = append(problems, api.Problem{Kind: problem, Node: number, Name: name})
			}
		}
	}
	slices.SortStableFunc(problems, func(a, b api.Problem) int { return cmp.Compare(a.Node, b.Node) })
	return problems
}

// TestSecondReading compares all functions with the second reading: P6.2 to P6.8.
func TestSecondReading(t *testing.T) {
	for _, s := range stmts(t, 61, 400, 150) {
		r := read(t, s)
		text := textOf(t, s)
		uses, e := scope.Uses(s)
		same(t, text, "Uses", uses, r.uses(), e)
		places, e := scope.Places(s)
		same(t, text, "Places", places, r.places(), e)
		problems, e := scope.Check(s)
		same(t, text, "Check", problems, r.problems(), e)
		free, e := scope.Free(s)
		same(t, text, "Free", free, r.free(), e)
		for i := range r.parts {
			r.compareAt(t, s, text, i)
		}
	}
}

func same[T comparable](t *testing.T, text, what string, got, want []T, e api.Errno) {
	t.Helper()
	if e != api.OK || !slices.Equal(got, want) {
		t.Fatalf("%s of %s:\n%v, %d; want\n%v", what, text, got, e, want)
	}
}

func (r *reading) free() []string {
	var names []string
	for _, u := range r.uses() {
		if u.Place.Kind <= api.BiStandard {
			names = append(names, u.Name)
		}
	}
	slices.Sort(names)
	return slices.Compact(names)
}

// compareAt compares what the functions say of the part with a number.
func (r *reading) compareAt(t *testing.T, s api.Stmt, text string, number int) {
	t.Helper()
	level, enclosing := 0, -1
	var names []string
	for _, g := range r.around(number) {
		names = append(names, g.names...)
		if g.counted {
			level++
		}
		if g.proc >= 0 && enclosing < 0 {
			enclosing = g.proc
		}
	}
	if got, e := scope.Level(s, number); e != api.OK || got != level {
		t.Fatalf("Level(%s, %d) = %d, %d; want %d", text, number, got, e, level)
	}
	if got, e := scope.Enclosing(s, number); e != api.OK || got != enclosing {
		t.Fatalf("Enclosing(%s, %d) = %d, %d; want %d", text, number, got, e, enclosing)
	}
	slices.Sort(names)
	var visible []api.Place
	for _, name := range slices.Compact(names) {
		visible = append(visible, r.lookup(number, name))
	}
	got, e := scope.Visible(s, number)
	same(t, text, fmt.Sprint("Visible at ", number), got, visible, e)
	all, _ := tree.Names(s)
	for _, name := range append(all, "sign", "unknown") {
		want := r.lookup(number, name)
		place, e := scope.Lookup(s, number, name)
		if place != want || (e == api.ErrNone) != (want == api.Place{}) || e != api.OK && e != api.ErrNone {
			t.Fatalf("Lookup(%s, %d, %q) = %v, %d; want %v", text, number, name, place, e, want)
		}
	}
}
