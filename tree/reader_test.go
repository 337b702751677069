package tree_test

import (
	"slices"

	"manorboy/api"
	"manorboy/lex"
)

// A reader of texts, which shows that nothing of a tree gets lost in its text. It knows the texts that layer 4 writes, and nothing of what else layer 5 allows.

type reader struct {
	tokens []api.Token
	at     int
}

// readWhole reads a text with a function that reads a part from the tokens; ok is false if it does not read all of them.
func readWhole[T any](text string, read func(r *reader) T) (x T, ok bool) {
	tokens, e, _ := lex.Lex(text)
	if e != api.OK {
		return x, false
	}
	defer func() {
		if recover() != nil {
			ok = false
		}
	}()
	r := &reader{tokens: tokens}
	x = read(r)
	return x, r.at == len(tokens)
}

// sees reports whether the token that is ahead has one of these texts, as a sign or as a word.
func (r *reader) sees(texts ...string) bool {
	return r.seesAt(0, texts...)
}

func (r *reader) seesAt(ahead int, texts ...string) bool {
	if r.at+ahead >= len(r.tokens) {
		return false
	}
	token := r.tokens[r.at+ahead]
	return (token.Kind == api.TkSign || token.Kind == api.TkWord) && slices.Contains(texts, token.Text)
}

func (r *reader) kind() int {
	if r.at >= len(r.tokens) {
		return 0
	}
	return r.tokens[r.at].Kind
}

// take goes past a token if it has one of these texts.
func (r *reader) take(texts ...string) bool {
	if !r.sees(texts...) {
		return false
	}
	r.at++
	return true
}

func (r *reader) need(text string) {
	if !r.take(text) {
		panic("no " + text)
	}
}

func (r *reader) name() string {
	if r.kind() != api.TkName {
		panic("no name")
	}
	r.at++
	return r.tokens[r.at-1].Text
}

// some reads things with a separator.
func some[T any](r *reader, separator string, read func() T) []T {
	l := []T{read()}
	for r.take(separator) {
		l = append(l, read())
	}
	return l
}

func (r *reader) exp() api.Exp {
	if !r.take("if") {
		return r.chain(1)
	}
	a := r.chain(1)
	r.need("then")
	b := r.chain(1)
	r.need("else")
	return choice(a, b, r.exp())
}

// chain reads an expression of a level, or of a higher one.
func (r *reader) chain(level int) api.Exp {
	signs := map[int]map[string]int{
		1: {"eqv": api.OpEqv}, 2: {"imp": api.OpImp}, 3: {"or": api.OpOr}, 4: {"and": api.OpAnd},
		6: {"<": api.OpLt, "<=": api.OpLe, "=": api.OpEq, "/=": api.OpNe, ">=": api.OpGe, ">": api.OpGt},
		7: {"+": api.OpAdd, "-": api.OpSub}, 8: {"*": api.OpMul, "/": api.OpDiv, "//": api.OpQuo}, 9: {"^": api.OpPow},
	}[level]
	if level == 10 {
		return r.primary()
	}
	var e api.Exp
	switch {
	case level == 5 && r.take("not"):
		return one(api.OpNot, r.chain(6))
	case level == 7 && r.take("-"):
		e = one(api.OpNeg, r.chain(8))
	default:
		e = r.chain(level + 1)
	}
	for r.at < len(r.tokens) {
		op := signs[r.tokens[r.at].Text]
		if op == 0 || r.kind() == api.TkString {
			break
		}
		r.at++
		e = two(op, e, r.chain(level+1))
		if level == 6 {
			break
		}
	}
	return e
}

func (r *reader) primary() api.Exp {
	if r.take("(") {
		e := r.exp()
		r.need(")")
		return e
	}
	token := r.tokens[r.at]
	switch token.Kind {
	case api.TkInt:
		r.at++
		return num(token.N)
	case api.TkReal:
		r.at++
		return api.Exp{Kind: api.ExReal, Real: token.Real}
	case api.TkString:
		r.at++
		return quoted(token.Text)
	case api.TkWord:
		if r.take("true") {
			return truth(true)
		}
		r.need("false")
		return truth(false)
	}
	s := r.name()
	switch {
	case r.take("["):
		e := index(s, some(r, ",", r.exp)...)
		r.need("]")
		return e
	case r.take("("):
		e := call(s, some(r, ",", r.exp)...)
		r.need(")")
		return e
	}
	return name(s)
}

func (r *reader) elem() api.Elem {
	a := r.exp()
	switch {
	case r.take("step"):
		b := r.exp()
		r.need("until")
		return step(a, b, r.exp())
	case r.take("while"):
		return while(a, r.exp())
	}
	return once(a)
}

func (r *reader) stmt() api.Stmt {
	var labels []string
	for r.kind() == api.TkName && r.seesAt(1, ":") {
		labels = append(labels, r.name())
		r.need(":")
	}
	return labelled(r.unlabelled(), labels...)
}

func (r *reader) unlabelled() api.Stmt {
	switch {
	case r.take("goto"):
		return jump(r.exp())
	case r.take("if"):
		e := r.exp()
		r.need("then")
		body := []api.Stmt{r.stmt()}
		if body[0].Kind == api.StIf || body[0].Kind == api.StFor {
			panic("not closed")
		}
		if r.take("else") {
			body = append(body, r.stmt())
		}
		return when(e, body...)
	case r.take("for"):
		target := r.chain(10)
		r.need(":=")
		elems := some(r, ",", r.elem)
		r.need("do")
		return loop(target, r.stmt(), elems...)
	case r.take("begin"):
		return r.compound()
	case r.kind() == api.TkName:
		return r.assignOrCall()
	}
	return empty()
}

func (r *reader) assignOrCall() api.Stmt {
	first := r.chain(10)
	if !r.take(":=") {
		return invoke(first.Text, first.Args...)
	}
	targets := []api.Exp{first}
	for {
		e := r.exp()
		if !r.take(":=") {
			return assign(e, targets...)
		}
		targets = append(targets, e)
	}
}

func (r *reader) compound() api.Stmt {
	s := api.Stmt{Kind: api.StList}
	for r.sees("own", "integer", "real", "boolean", "array", "switch", "procedure") {
		s.Kind = api.StBlock
		s.Decls = append(s.Decls, r.decl())
		r.need(";")
	}
	s.Body = some(r, ";", r.stmt)
	r.need("end")
	return s
}

// typ reads a type, or none.
func (r *reader) typ() int {
	for t, word := range []string{"", "integer", "real", "boolean"} {
		if t > 0 && r.take(word) {
			return t
		}
	}
	return api.TyNone
}

func (r *reader) decl() api.Decl {
	isOwn := r.take("own")
	typ := r.typ()
	switch {
	case r.take("array"):
		d := arrays(typ, some(r, ",", r.name))
		r.need("[")
		bounds := func() []api.Exp {
			lower := r.exp()
			r.need(":")
			return []api.Exp{lower, r.exp()}
		}
		d.Exps = slices.Concat(some(r, ",", bounds)...)
		d.Own = isOwn
		r.need("]")
		return d
	case r.take("switch"):
		s := r.name()
		r.need(":=")
		return switches(s, some(r, ",", r.exp)...)
	case r.take("procedure"):
		return r.procedure(typ)
	}
	d := variables(typ, some(r, ",", r.name)...)
	d.Own = isOwn
	return d
}

func (r *reader) procedure(typ int) api.Decl {
	s := r.name()
	var formals []api.Formal
	if r.take("(") {
		for _, f := range some(r, ",", r.name) {
			formals = append(formals, api.Formal{Name: f})
		}
		r.need(")")
	}
	r.need(";")
	find := func(s string) *api.Formal {
		for i := range formals {
			if formals[i].Name == s {
				return &formals[i]
			}
		}
		panic("no formal parameter")
	}
	if r.take("value") {
		for _, f := range some(r, ",", r.name) {
			find(f).Value = true
		}
		r.need(";")
	}
	for r.sees("integer", "real", "boolean", "array", "label", "switch", "string", "procedure") {
		typ := r.typ()
		spec := api.SpVar
		for i, word := range []string{"array", "label", "switch", "string", "procedure"} {
			if r.take(word) {
				spec = api.SpArray + i
			}
		}
		f := find(r.name())
		f.Spec, f.Type = spec, typ
		r.need(";")
	}
	return proc(typ, s, r.stmt(), formals...)
}
