package parse

import "manorboy/api"

// program reads a program.
func (p *parser) program() api.Stmt {
	from := p.begin()
	var labels []string
	for p.kind() == api.TkName {
		labels = append(labels, p.label())
	}
	s := p.compound()
	s.Labels = labels
	p.end(from)
	return s
}

// statement reads any statement.
func (p *parser) statement() api.Stmt {
	return p.labelled(p.unlabelled)
}

// closed reads a statement that can stand ahead of the word else.
func (p *parser) closed() api.Stmt {
	return p.labelled(p.closedUnlabelled)
}

// labelled reads labels, and a statement by the rule for what stands behind them.
func (p *parser) labelled(unlabelled func() api.Stmt) api.Stmt {
	from := p.begin()
	var labels []string
	for p.kind() == api.TkName && p.mark(1) == ":" {
		labels = append(labels, p.label())
	}
	s := unlabelled()
	s.Labels = labels
	p.end(from)
	return s
}

// label reads a label and the sign behind it.
func (p *parser) label() string {
	label := p.name()
	p.need(":")
	return label
}

func (p *parser) unlabelled() api.Stmt {
	switch {
	case p.takes("if"):
		return p.conditional()
	case p.takes("for"):
		return p.loop()
	}
	return p.closedUnlabelled()
}

func (p *parser) closedUnlabelled() api.Stmt {
	switch {
	case p.takes("goto"):
		return api.Stmt{Kind: api.StGoto, Exps: []api.Exp{p.expression()}}
	case p.sees("begin"):
		return p.compound()
	case p.kind() != api.TkName:
		return api.Stmt{Kind: api.StEmpty}
	case p.mark(1) == "[" || p.mark(1) == ":=":
		return p.assignment()
	}
	return p.call()
}

// assignment reads an assignment. What stands behind its first target is read as an expression, since only the sign behind it tells whether it is another target.
func (p *parser) assignment() api.Stmt {
	s := api.Stmt{Kind: api.StAssign, Targets: []api.Exp{p.target()}}
	p.need(":=")
	for {
		// The expression alone does not tell whether it stood behind ( or +.
		begins := p.kind() == api.TkName
		e := p.expression()
		if !begins || !isVariable(e) || !p.takes(":=") {
			s.Exps = []api.Exp{e}
			return s
		}
		s.Targets = append(s.Targets, e)
	}
}

// isVariable reports whether an expression is of a kind to which values are assigned.
func isVariable(e api.Exp) bool {
	return e.Kind == api.ExName || e.Kind == api.ExIndex
}

// call reads a call of a procedure.
func (p *parser) call() api.Stmt {
	s := api.Stmt{Kind: api.StCall, Text: p.name()}
	if p.sees("(") {
		s.Exps = p.parameters()
	}
	return s
}

// conditional reads what stands behind the word if.
func (p *parser) conditional() api.Stmt {
	s := api.Stmt{Kind: api.StIf, Exps: []api.Exp{p.expression()}}
	p.need("then")
	s.Body = []api.Stmt{p.closed()}
	if p.takes("else") {
		s.Body = append(s.Body, p.statement())
	}
	return s
}

// loop reads what stands behind the word for.
func (p *parser) loop() api.Stmt {
	s := api.Stmt{Kind: api.StFor, Targets: []api.Exp{p.target()}}
	p.need(":=")
	s.For = listOf(p, ",", unlimited, p.element)
	p.need("do")
	s.Body = []api.Stmt{p.statement()}
	return s
}

// element reads an element of the list of a for statement.
func (p *parser) element() api.Elem {
	from := p.begin()
	l := api.Elem{Kind: api.FeOnce, Exps: []api.Exp{p.expression()}}
	switch {
	case p.takes("step"):
		l.Kind = api.FeStep
		l.Exps = append(l.Exps, p.expression())
		p.need("until")
		l.Exps = append(l.Exps, p.expression())
	case p.takes("while"):
		l.Kind = api.FeWhile
		l.Exps = append(l.Exps, p.expression())
	}
	p.end(from)
	return l
}

// compound reads a block or a compound statement.
func (p *parser) compound() api.Stmt {
	s := api.Stmt{Kind: api.StList}
	p.need("begin")
	for p.sees("own", "integer", "real", "boolean", "array", "switch", "procedure") {
		s.Kind = api.StBlock
		s.Decls = append(s.Decls, p.declaration()...)
		p.need(";")
	}
	s.Body = listOf(p, ";", unlimited, p.statement)
	p.need("end")
	return s
}
