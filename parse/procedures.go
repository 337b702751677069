package parse

import (
	"slices"

	"manorboy/api"
)

// identifier is an identifier, and the index of its token.
type identifier struct {
	text string
	at   int
}

// specified is an identifier behind a specifier.
type specified struct {
	identifier
	spec, typ int
}

// heading is what the heading of a procedure says of its formal parameters.
type heading struct {
	formals []identifier
	values  []identifier
	specs   []specified
}

// procedure reads what stands behind the word procedure.
func (p *parser) procedure(typ int) api.Decl {
	name := p.name()
	h := p.heading()
	if p.fault.e == api.OK {
		// The headings follow each other in the order of their tokens.
		p.fault = h.fault()
	}
	body := p.statement()
	return api.Decl{Kind: api.DeProc, Type: typ, Names: []string{name}, Formals: h.parameters(), Body: []api.Stmt{body}}
}

// heading reads what stands between the identifier of a procedure and its body.
func (p *parser) heading() heading {
	var h heading
	if p.takes("(") {
		h.formals = listOf(p, ",", api.MaxPars, p.identifier)
		p.need(")")
	}
	p.need(";")
	if p.takes("value") {
		h.values = listOf(p, ",", unlimited, p.identifier)
		p.need(";")
	}
	for p.sees("integer", "real", "boolean", "array", "procedure", "label", "switch", "string") {
		h.specs = append(h.specs, p.specification()...)
	}
	return h
}

func (p *parser) identifier() identifier {
	at := p.at
	return identifier{text: p.name(), at: at}
}

// specification reads a specifier, and the identifiers behind it.
func (p *parser) specification() []specified {
	spec, typ := p.specifier()
	var list []specified
	for _, i := range listOf(p, ",", unlimited, p.identifier) {
		list = append(list, specified{identifier: i, spec: spec, typ: typ})
	}
	p.need(";")
	return list
}

func (p *parser) specifier() (spec, typ int) {
	typ = p.maybeType()
	switch {
	case p.takes("array"):
		return api.SpArray, typ
	case p.takes("procedure"):
		return api.SpProc, typ
	case typ != api.TyNone:
		return api.SpVar, typ
	case p.takes("label"):
		return api.SpLabel, api.TyNone
	case p.takes("switch"):
		return api.SpSwitch, api.TyNone
	}
	p.need("string")
	return api.SpString, api.TyNone
}

// indexOf returns the index of the first of the identifiers that is this one, or -1.
func indexOf(list []identifier, text string) int {
	return slices.IndexFunc(list, func(i identifier) bool { return i.text == text })
}

// specOf returns the index of the first specification of an identifier, or -1.
func (h heading) specOf(text string) int {
	return slices.IndexFunc(h.specs, func(s specified) bool { return s.text == text })
}

// parameters returns the formal parameters.
func (h heading) parameters() []api.Formal {
	var list []api.Formal
	for _, i := range h.formals {
		f := api.Formal{Name: i.text, Value: indexOf(h.values, i.text) >= 0}
		if at := h.specOf(i.text); at >= 0 {
			f.Spec, f.Type = h.specs[at].spec, h.specs[at].typ
		}
		list = append(list, f)
	}
	return list
}

// fault returns the first faulty identifier. Its error is OK if there is none.
func (h heading) fault() mistake {
	for i, f := range h.formals {
		if indexOf(h.formals, f.text) < i {
			return mistake{e: api.ErrTwice, at: f.at}
		}
	}
	for i, v := range h.values {
		if e := h.valueError(i); e != api.OK {
			return mistake{e: e, at: v.at}
		}
	}
	for i, s := range h.specs {
		if e := h.specError(i); e != api.OK {
			return mistake{e: e, at: s.at}
		}
	}
	return mistake{}
}

// valueError returns what is wrong with the identifier with an index behind the word value.
func (h heading) valueError(i int) api.Errno {
	text := h.values[i].text
	switch {
	case indexOf(h.formals, text) < 0:
		return api.ErrNone
	case indexOf(h.values, text) < i:
		return api.ErrTwice
	case !h.mayBeValue(text):
		return api.ErrKind
	}
	return api.OK
}

// mayBeValue reports whether the first specification of an identifier is one of what can be called by value.
func (h heading) mayBeValue(text string) bool {
	at := h.specOf(text)
	return at >= 0 && h.specs[at].typ != api.TyNone && h.specs[at].spec != api.SpProc
}

// specError returns what is wrong with the specified identifier with an index.
func (h heading) specError(i int) api.Errno {
	text := h.specs[i].text
	switch {
	case indexOf(h.formals, text) < 0:
		return api.ErrNone
	case h.specOf(text) < i:
		return api.ErrTwice
	}
	return api.OK
}
