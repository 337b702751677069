package parse

import "manorboy/api"

// operator is how an operator is read: its sign or word, whether it stands in front of an operand or behind one, the level of its expressions, and the Op of its part.
type operator struct {
	mark    string
	inFront bool
	level   int
	op      int
}

// noOp is the Op of the sign + in front, which has no part of its own.
const noOp = 0

var operators = []operator{
	{"eqv", false, 1, api.OpEqv},
	{"imp", false, 2, api.OpImp},
	{"or", false, 3, api.OpOr},
	{"and", false, 4, api.OpAnd},
	{"not", true, 5, api.OpNot},
	{"<", false, 6, api.OpLt},
	{"<=", false, 6, api.OpLe},
	{"=", false, 6, api.OpEq},
	{"/=", false, 6, api.OpNe},
	{">=", false, 6, api.OpGe},
	{">", false, 6, api.OpGt},
	{"+", true, 7, noOp},
	{"-", true, 7, api.OpNeg},
	{"+", false, 7, api.OpAdd},
	{"-", false, 7, api.OpSub},
	{"*", false, 8, api.OpMul},
	{"/", false, 8, api.OpDiv},
	{"//", false, 8, api.OpQuo},
	{"^", false, 9, api.OpPow},
}

// The levels that differ from the others.
const (
	lowestLevel   = 1
	relationLevel = 6 // whose operators cannot follow each other
	primaryLevel  = 10
)

// expression reads an expression.
func (p *parser) expression() api.Exp {
	from := p.begin()
	if !p.takes("if") {
		return p.level(lowestLevel)
	}
	condition := p.level(lowestLevel)
	p.need("then")
	first := p.level(lowestLevel)
	p.need("else")
	second := p.expression()
	p.end(from)
	return api.Exp{Kind: api.ExIf, Args: []api.Exp{condition, first, second}}
}

// level reads an expression of a level.
func (p *parser) level(level int) api.Exp {
	if level == primaryLevel {
		return p.primary()
	}
	from := p.begin()
	left := p.first(level)
	for {
		op, found := p.operator(level, false)
		if !found {
			return left
		}
		right := p.level(level + 1)
		left = api.Exp{Kind: api.ExTwo, Op: op, Args: []api.Exp{left, right}}
		p.end(from)
		if level == relationLevel {
			return left
		}
	}
}

// first reads the first operand of a level, with what stands in front of it.
func (p *parser) first(level int) api.Exp {
	from := p.begin()
	op, found := p.operator(level, true)
	e := p.level(level + 1)
	if !found || op == noOp {
		return e
	}
	p.end(from)
	return api.Exp{Kind: api.ExOne, Op: op, Args: []api.Exp{e}}
}

// operator goes past an operator of a level, in front or not, if it is the next token.
func (p *parser) operator(level int, inFront bool) (op int, found bool) {
	for _, o := range operators {
		if o.level == level && o.inFront == inFront && p.takes(o.mark) {
			return o.op, true
		}
	}
	return noOp, false
}

// primary reads an expression of the highest level.
func (p *parser) primary() api.Exp {
	if p.takes("(") {
		e := p.expression()
		p.need(")")
		return e
	}
	from := p.begin()
	e, found := p.constant()
	if found {
		p.pass()
	} else {
		e = p.named()
	}
	p.end(from)
	return e
}

// constant returns the expression that the next token is alone, if it is one.
func (p *parser) constant() (e api.Exp, found bool) {
	if p.done() {
		return api.Exp{}, false
	}
	switch t := p.tokens[p.at]; {
	case t.Kind == api.TkInt:
		return api.Exp{Kind: api.ExInt, N: t.N}, true
	case t.Kind == api.TkReal:
		return api.Exp{Kind: api.ExReal, Real: t.Real}, true
	case t.Kind == api.TkString:
		return api.Exp{Kind: api.ExString, Text: t.Text}, true
	case p.sees("true"):
		return api.Exp{Kind: api.ExTrue}, true
	case p.sees("false"):
		return api.Exp{Kind: api.ExFalse}, true
	}
	return api.Exp{}, false
}

// named reads an expression that begins with an identifier.
func (p *parser) named() api.Exp {
	e := p.variable()
	if e.Kind == api.ExName && p.mark(0) == "(" {
		e.Kind = api.ExCall
		e.Args = p.parameters()
	}
	return e
}

// variable reads an identifier, and subscripts if they are there.
func (p *parser) variable() api.Exp {
	e := api.Exp{Kind: api.ExName, Text: p.name()}
	if p.takes("[") {
		e.Kind = api.ExIndex
		e.Args = listOf(p, ",", api.MaxDims, p.expression)
		p.need("]")
	}
	return e
}

// parameters reads the actual parameters of a call.
func (p *parser) parameters() []api.Exp {
	p.need("(")
	list := listOf(p, ",", api.MaxPars, p.expression)
	p.need(")")
	return list
}

// target reads a target of an assignment, or of a for statement.
func (p *parser) target() api.Exp {
	from := p.begin()
	e := p.variable()
	p.end(from)
	return e
}
