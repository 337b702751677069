package tree

import (
	"strings"

	"manorboy/api"
	"manorboy/integer"
	"manorboy/lex"
	"manorboy/real"
)

// operator is how an operator is written: its sign, the level of its expressions, and the levels that the places of its operands ask for (an operator of one operand has the right one).
type operator struct {
	sign               string
	level, left, right int
}

var operators = [...]operator{
	api.OpNeg: {sign: "-", level: 7, right: 8},
	api.OpNot: {sign: "not", level: 5, right: 6},
	api.OpAdd: {"+", 7, 7, 8},
	api.OpSub: {"-", 7, 7, 8},
	api.OpMul: {"*", 8, 8, 9},
	api.OpDiv: {"/", 8, 8, 9},
	api.OpQuo: {"//", 8, 8, 9},
	api.OpPow: {"^", 9, 9, 10},
	api.OpLt:  {"<", 6, 7, 7},
	api.OpLe:  {"<=", 6, 7, 7},
	api.OpEq:  {"=", 6, 7, 7},
	api.OpNe:  {"/=", 6, 7, 7},
	api.OpGe:  {">=", 6, 7, 7},
	api.OpGt:  {">", 6, 7, 7},
	api.OpAnd: {"and", 4, 4, 5},
	api.OpOr:  {"or", 3, 3, 4},
	api.OpImp: {"imp", 2, 2, 3},
	api.OpEqv: {"eqv", 1, 1, 2},
}

// The levels of expressions without operators.
const (
	ifLevel      = 0 // if then else
	insideIf     = 1 // what its first two places ask for
	primaryLevel = 10
)

// typeWord returns the word of a type, or "" for TyNone.
func typeWord(t int) string {
	switch t {
	case api.TyInt:
		return "integer"
	case api.TyReal:
		return "real"
	case api.TyBool:
		return "boolean"
	}
	return ""
}

// levelOf returns the level of an expression.
func levelOf(e api.Exp) int {
	switch e.Kind {
	case api.ExOne, api.ExTwo:
		return operators[e.Op].level
	case api.ExIf:
		return ifLevel
	}
	return primaryLevel
}

// writer writes the text of a valid part, token by token.
type writer struct {
	text strings.Builder
	last string // the last token, or "" if there is none
}

// put writes a token, or nothing for "".
func (w *writer) put(token string) {
	if token == "" {
		return
	}
	if w.last != "" && !adjoin(w.last, token) {
		w.text.WriteByte(' ')
	}
	w.text.WriteString(token)
	w.last = token
}

// adjoin reports whether no blank stands between two tokens.
func adjoin(first, second string) bool {
	switch second {
	case ",", ";", ":", ")", "]":
		return true
	case "(", "[":
		return first == "(" || first == "[" || lex.IsName(first)
	}
	return first == "(" || first == "["
}

// separated writes the elements of a list, with a sign between each two of them.
func separated[T any](w *writer, list []T, sign string, write func(T)) {
	for i, x := range list {
		if i > 0 {
			w.put(sign)
		}
		write(x)
	}
}

// bracketed writes the elements of a list between brackets, with commas between them, or nothing if it is empty.
func bracketed[T any](w *writer, first string, list []T, last string, write func(T)) {
	if len(list) == 0 {
		return
	}
	w.put(first)
	separated(w, list, ",", write)
	w.put(last)
}

// operand writes an expression in a place that asks for a level.
func (w *writer) operand(e api.Exp, asked int) {
	if levelOf(e) >= asked {
		w.exp(e)
		return
	}
	w.put("(")
	w.exp(e)
	w.put(")")
}

// exp writes an expression in a place that asks for the level 0.
func (w *writer) exp(e api.Exp) {
	switch e.Kind {
	case api.ExName:
		w.put(e.Text)
	case api.ExIndex:
		w.put(e.Text)
		bracketed(w, "[", e.Args, "]", w.exp)
	case api.ExCall:
		w.put(e.Text)
		bracketed(w, "(", e.Args, ")", w.exp)
	case api.ExOne:
		w.put(operators[e.Op].sign)
		w.operand(e.Args[0], operators[e.Op].right)
	case api.ExTwo:
		w.operand(e.Args[0], operators[e.Op].left)
		w.put(operators[e.Op].sign)
		w.operand(e.Args[1], operators[e.Op].right)
	case api.ExIf:
		w.put("if")
		w.operand(e.Args[0], insideIf)
		w.put("then")
		w.operand(e.Args[1], insideIf)
		w.put("else")
		w.operand(e.Args[2], ifLevel)
	default:
		w.put(literal(e))
	}
}

// literal returns the token of an expression that is a constant.
func literal(e api.Exp) string {
	text := ""
	switch e.Kind {
	case api.ExInt:
		text, _ = integer.Print(e.N)
	case api.ExReal:
		text, _ = real.Print(e.Real)
	case api.ExTrue:
		text = "true"
	case api.ExFalse:
		text = "false"
	case api.ExString:
		text = `"` + e.Text + `"`
	}
	return text
}

// stmt writes a statement.
func (w *writer) stmt(s api.Stmt) {
	for _, label := range s.Labels {
		w.put(label)
		w.put(":")
	}
	switch s.Kind {
	case api.StAssign:
		w.targets(s.Targets)
		w.exp(s.Exps[0])
	case api.StGoto:
		w.put("goto")
		w.exp(s.Exps[0])
	case api.StIf:
		w.conditional(s)
	case api.StFor:
		w.put("for")
		w.targets(s.Targets)
		separated(w, s.For, ",", w.elem)
		w.put("do")
		w.stmt(s.Body[0])
	case api.StCall:
		w.put(s.Text)
		bracketed(w, "(", s.Exps, ")", w.exp)
	case api.StBlock, api.StList:
		w.compound(s)
	}
}

// targets writes each target and the sign := behind it.
func (w *writer) targets(targets []api.Exp) {
	for _, target := range targets {
		w.exp(target)
		w.put(":=")
	}
}

// conditional writes an if statement.
func (w *writer) conditional(s api.Stmt) {
	w.put("if")
	w.exp(s.Exps[0])
	w.put("then")
	w.stmt(s.Body[0])
	if len(s.Body) == 2 {
		w.put("else")
		w.stmt(s.Body[1])
	}
}

// compound writes a block or a compound statement.
func (w *writer) compound(s api.Stmt) {
	w.put("begin")
	for _, d := range s.Decls {
		w.decl(d)
		w.put(";")
	}
	separated(w, s.Body, ";", w.stmt)
	w.put("end")
}

// elem writes an element of the list of a for statement.
func (w *writer) elem(l api.Elem) {
	w.exp(l.Exps[0])
	switch l.Kind {
	case api.FeStep:
		w.put("step")
		w.exp(l.Exps[1])
		w.put("until")
		w.exp(l.Exps[2])
	case api.FeWhile:
		w.put("while")
		w.exp(l.Exps[1])
	}
}

// decl writes a declaration.
func (w *writer) decl(d api.Decl) {
	if d.Own {
		w.put("own")
	}
	w.put(typeWord(d.Type))
	switch d.Kind {
	case api.DeVar:
		separated(w, d.Names, ",", w.put)
	case api.DeArray:
		w.put("array")
		separated(w, d.Names, ",", w.put)
		w.bounds(d.Exps)
	case api.DeSwitch:
		w.put("switch")
		w.put(d.Names[0])
		w.put(":=")
		separated(w, d.Exps, ",", w.exp)
	case api.DeProc:
		w.put("procedure")
		w.put(d.Names[0])
		w.formals(d.Formals)
		w.stmt(d.Body[0])
	}
}

// bounds writes the bounds of an array, the lower and the upper one of each dimension.
func (w *writer) bounds(exps []api.Exp) {
	w.put("[")
	for i, e := range exps {
		switch {
		case i%2 == 1:
			w.put(":")
		case i > 0:
			w.put(",")
		}
		w.exp(e)
	}
	w.put("]")
}

// formals writes what stands between the name of a procedure and its body.
func (w *writer) formals(formals []api.Formal) {
	name := func(f api.Formal) { w.put(f.Name) }
	bracketed(w, "(", formals, ")", name)
	w.put(";")
	var values []api.Formal
	for _, f := range formals {
		if f.Value {
			values = append(values, f)
		}
	}
	if len(values) > 0 {
		w.put("value")
		separated(w, values, ",", name)
		w.put(";")
	}
	for _, f := range formals {
		w.specification(f)
	}
}

// specification writes the specification of a formal parameter, if it has one.
func (w *writer) specification(f api.Formal) {
	if f.Spec == api.SpNone {
		return
	}
	shape, _ := shapeOfSpec(f.Spec)
	w.put(typeWord(f.Type))
	w.put(shape.word)
	w.put(f.Name)
	w.put(";")
}
