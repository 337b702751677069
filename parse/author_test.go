package parse_test

import (
	"slices"
	"strings"

	"manorboy/api"
	"manorboy/integer"
	"manorboy/real"
)

// An author writes trees as texts in any of the ways that the chapter allows, and knows where each part lies.

// author writes a text. Each part has its place in the order in which it is begun, which is that of the numbers.
type author struct {
	maker
	plain  bool // whether to write nothing by chance
	text   strings.Builder
	tokens []api.Piece
	last   string
	places []place
}

// place is where a part lies: the tokens from the index from up to, but not including, to.
type place struct {
	from, to int
}

// written is a text and the pieces of the parts of what it denotes.
type written struct {
	text   string
	pieces []api.Piece
}

func newAuthor(seed int64) *author { return &author{maker: newMaker(seed)} }

// chance reports true one time of so many.
func (a *author) chance(of int) bool { return !a.plain && a.Intn(of) == 0 }

func (a *author) done() written {
	w := written{text: a.text.String()}
	for _, p := range a.places {
		end := 0
		if p.to > 0 {
			end = a.tokens[p.to-1].End
		}
		at := end
		if p.from < p.to {
			at = a.tokens[p.from].At
		}
		w.pieces = append(w.pieces, api.Piece{At: at, End: end})
	}
	return w
}

// write returns a text of a program.
func (m maker) write(s api.Stmt) written {
	a := newAuthor(m.Int63())
	a.gap("")
	a.stmt(s)
	a.gap("")
	return a.done()
}

// writeExp returns a text of an expression.
func (m maker) writeExp(e api.Exp) written {
	a := newAuthor(m.Int63())
	a.gap("")
	a.exp(e, 0)
	a.gap("")
	return a.done()
}

// begin begins a part, and returns its index.
func (a *author) begin() int {
	a.places = append(a.places, place{from: len(a.tokens)})
	return len(a.places) - 1
}

func (a *author) end(part int) { a.places[part].to = len(a.tokens) }

func isRun(b byte) bool { return 'a' <= b && b <= 'z' || '0' <= b && b <= '9' }

// gap writes blanks and comments ahead of a token: none, where the tokens remain apart without.
func (a *author) gap(next string) {
	if (a.last == ";" || a.last == "begin") && a.chance(8) {
		a.text.WriteString(pick(a.maker, " comment end begin \"($;", " comment;", "\tcomment\n; "))
	}
	if a.last == "end" && a.chance(3) {
		a.text.WriteString(pick(a.maker, " of the block", "(*)\"", " begin x := 1, endelse \n ."))
	}
	apart := a.last != "" && next != "" && isRun(a.last[len(a.last)-1]) && isRun(next[0])
	signs := a.last != "" && next != "" && strings.ContainsAny(a.last[len(a.last)-1:], "/<>:=") && strings.ContainsAny(next[:1], "/=")
	if apart || signs || a.last == "end" || !a.chance(3) && a.last != "" && next != "" {
		a.text.WriteByte(' ')
	}
	if a.chance(10) {
		a.text.WriteString(pick(a.maker, " ", "\n", "\t", "\r\n", "   "))
	}
}

func (a *author) put(token string) {
	a.gap(token)
	at := a.text.Len()
	a.text.WriteString(token)
	a.tokens = append(a.tokens, api.Piece{At: at, End: a.text.Len()})
	a.last = token
}

// separated writes things with a sign between each two of them.
func separated[T any](a *author, l []T, sign string, write func(T)) {
	for i, x := range l {
		if i > 0 {
			a.put(sign)
		}
		write(x)
	}
}

// levels are the sign, the level and the levels of the operands of each operator.
var levels = map[int]struct {
	sign               string
	level, left, right int
}{
	api.OpNeg: {"-", 7, 0, 8}, api.OpNot: {"not", 5, 0, 6},
	api.OpEqv: {"eqv", 1, 1, 2}, api.OpImp: {"imp", 2, 2, 3}, api.OpOr: {"or", 3, 3, 4}, api.OpAnd: {"and", 4, 4, 5},
	api.OpLt: {"<", 6, 7, 7}, api.OpLe: {"<=", 6, 7, 7}, api.OpEq: {"=", 6, 7, 7}, api.OpNe: {"/=", 6, 7, 7}, api.OpGe: {">=", 6, 7, 7}, api.OpGt: {">", 6, 7, 7},
	api.OpAdd: {"+", 7, 7, 8}, api.OpSub: {"-", 7, 7, 8},
	api.OpMul: {"*", 8, 8, 9}, api.OpDiv: {"/", 8, 8, 9}, api.OpQuo: {"//", 8, 8, 9}, api.OpPow: {"^", 9, 9, 10},
}

func levelOf(e api.Exp) int {
	switch e.Kind {
	case api.ExOne, api.ExTwo:
		return levels[e.Op].level
	case api.ExIf:
		return 0
	}
	return 10
}

// exp writes an expression, in parentheses where its place asks for a higher level, or by chance, and with a sign + in front where one can stand.
func (a *author) exp(e api.Exp, asked int) {
	bracketed := levelOf(e) < asked || a.chance(10)
	if asked <= 7 && (bracketed || levelOf(e) >= 8) && a.chance(8) {
		a.put("+")
	}
	if bracketed {
		a.put("(")
		a.exp(e, 0)
		a.put(")")
		return
	}
	part := a.begin()
	a.bare(e)
	a.end(part)
}

// args writes expressions between brackets.
func (a *author) args(open string, l []api.Exp, close string) {
	a.put(open)
	separated(a, l, ",", func(e api.Exp) { a.exp(e, 0) })
	a.put(close)
}

// bare writes an expression without parentheses around it.
func (a *author) bare(e api.Exp) {
	switch e.Kind {
	case api.ExName:
		a.put(e.Text)
	case api.ExIndex:
		a.put(e.Text)
		a.args("[", e.Args, "]")
	case api.ExCall:
		a.put(e.Text)
		a.args("(", e.Args, ")")
	case api.ExOne:
		a.put(levels[e.Op].sign)
		a.exp(e.Args[0], levels[e.Op].right)
	case api.ExTwo:
		a.exp(e.Args[0], levels[e.Op].left)
		a.put(levels[e.Op].sign)
		a.exp(e.Args[1], levels[e.Op].right)
	case api.ExIf:
		for i, word := range []string{"if", "then", "else"} {
			a.put(word)
			a.exp(e.Args[i], []int{1, 1, 0}[i])
		}
	default:
		a.constant(e)
	}
}

func (a *author) constant(e api.Exp) {
	switch e.Kind {
	case api.ExInt:
		text, _ := integer.Print(e.N)
		a.put(strings.Repeat("0", a.Intn(2)) + text)
	case api.ExReal:
		text, _ := real.Print(e.Real)
		a.put(text)
	case api.ExString:
		a.put(`"` + e.Text + `"`)
	case api.ExTrue:
		a.put("true")
	case api.ExFalse:
		a.put("false")
	}
}

// targets writes targets, which no parentheses can be around.
func (a *author) targets(l []api.Exp) {
	for _, e := range l {
		part := a.begin()
		a.bare(e)
		a.end(part)
		a.put(":=")
	}
}

func (a *author) stmt(s api.Stmt) {
	part := a.begin()
	for _, label := range s.Labels {
		a.put(label)
		a.put(":")
	}
	switch s.Kind {
	case api.StAssign:
		a.targets(s.Targets)
		a.exp(s.Exps[0], 0)
	case api.StGoto:
		a.put("goto")
		a.exp(s.Exps[0], 0)
	case api.StIf:
		a.put("if")
		a.exp(s.Exps[0], 0)
		a.put("then")
		separated(a, s.Body, "else", a.stmt)
	case api.StFor:
		a.put("for")
		a.targets(s.Targets)
		separated(a, s.For, ",", a.elem)
		a.put("do")
		a.stmt(s.Body[0])
	case api.StCall:
		a.put(s.Text)
		if len(s.Exps) > 0 {
			a.args("(", s.Exps, ")")
		}
	case api.StBlock, api.StList:
		a.put("begin")
		a.decls(s.Decls)
		separated(a, s.Body, ";", a.stmt)
		a.put("end")
	}
	a.end(part)
}

func (a *author) elem(l api.Elem) {
	part := a.begin()
	words := map[int][]string{api.FeStep: {"", "step", "until"}, api.FeWhile: {"", "while"}, api.FeOnce: {""}}[l.Kind]
	for i, word := range words {
		if word != "" {
			a.put(word)
		}
		a.exp(l.Exps[i], 0)
	}
	a.end(part)
}

// decls writes declarations, of which arrays of one type can have one declaration.
func (a *author) decls(l []api.Decl) {
	for i, d := range l {
		part := a.begin()
		further := i > 0 && d.Kind == api.DeArray && l[i-1].Kind == api.DeArray && d.Own == l[i-1].Own && d.Type == l[i-1].Type && a.last == ","
		if d.Kind == api.DeArray {
			a.array(d, further)
		} else {
			a.decl(d)
		}
		a.end(part)
		joins := d.Kind == api.DeArray && i+1 < len(l) && l[i+1].Kind == api.DeArray && l[i+1].Own == d.Own && l[i+1].Type == d.Type
		if joins && a.chance(2) {
			a.put(",")
		} else {
			a.put(";")
		}
	}
}

func (a *author) typ(t int) {
	if t != api.TyNone {
		a.put([]string{"", "integer", "real", "boolean"}[t])
	}
}

// array writes arrays, of which the ones behind a comma are further ones of one declaration.
func (a *author) array(d api.Decl, further bool) {
	if !further {
		if d.Own {
			a.put("own")
		}
		if d.Own || d.Type != api.TyReal || !a.chance(2) {
			a.typ(d.Type)
		}
		a.put("array")
	}
	separated(a, d.Names, ",", a.put)
	a.put("[")
	for i, e := range d.Exps {
		if i > 0 {
			a.put([]string{",", ":"}[i%2])
		}
		a.exp(e, 0)
	}
	a.put("]")
}

func (a *author) decl(d api.Decl) {
	if d.Own {
		a.put("own")
	}
	a.typ(d.Type)
	switch d.Kind {
	case api.DeVar:
		separated(a, d.Names, ",", a.put)
	case api.DeSwitch:
		a.put("switch")
		a.put(d.Names[0])
		a.put(":=")
		separated(a, d.Exps, ",", func(e api.Exp) { a.exp(e, 0) })
	case api.DeProc:
		a.put("procedure")
		a.put(d.Names[0])
		a.formals(d.Formals)
		a.stmt(d.Body[0])
	}
}

// shuffled returns formal parameters in any order.
func (a *author) shuffled(l []api.Formal) []api.Formal {
	l = slices.Clone(l)
	if !a.plain {
		a.Shuffle(len(l), func(i, k int) { l[i], l[k] = l[k], l[i] })
	}
	return l
}

// formals writes formal parameters; what is said of them, in any order; equal specifiers, by chance, once.
func (a *author) formals(formals []api.Formal) {
	name := func(f api.Formal) { a.put(f.Name) }
	if len(formals) > 0 {
		a.put("(")
		separated(a, formals, ",", name)
		a.put(")")
	}
	a.put(";")
	values := slices.DeleteFunc(a.shuffled(formals), func(f api.Formal) bool { return !f.Value })
	if len(values) > 0 {
		a.put("value")
		separated(a, values, ",", name)
		a.put(";")
	}
	rest := slices.DeleteFunc(a.shuffled(formals), func(f api.Formal) bool { return f.Spec == api.SpNone })
	for len(rest) > 0 {
		first := rest[0]
		isLike := func(f api.Formal) bool { return f.Spec == first.Spec && f.Type == first.Type }
		group := slices.DeleteFunc(slices.Clone(rest), func(f api.Formal) bool { return !isLike(f) })
		if a.chance(2) || a.plain {
			group = rest[:1]
		}
		a.specifier(first)
		separated(a, group, ",", name)
		a.put(";")
		rest = slices.DeleteFunc(slices.Clone(rest), func(f api.Formal) bool { return slices.Contains(group, f) })
	}
}

func (a *author) specifier(f api.Formal) {
	a.typ(f.Type)
	word := map[int]string{api.SpArray: "array", api.SpLabel: "label", api.SpSwitch: "switch", api.SpString: "string", api.SpProc: "procedure"}[f.Spec]
	if word != "" {
		a.put(word)
	}
}
