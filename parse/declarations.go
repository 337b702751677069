package parse

import (
	"slices"

	"manorboy/api"
)

// declaration reads a declaration, which is several ones if it is one of arrays with several segments.
func (p *parser) declaration() []api.Decl {
	from := p.begin()
	own := p.takes("own")
	typ := p.maybeType()
	if own && typ == api.TyNone {
		// Any type would do here, but none is here.
		p.need("integer")
		typ = api.TyInt
	}
	if p.takes("array") {
		return p.arrays(from, own, typ)
	}
	d := p.single(own, typ)
	p.end(from)
	return []api.Decl{d}
}

// maybeType reads a type, if there is one.
func (p *parser) maybeType() int {
	switch {
	case p.takes("integer"):
		return api.TyInt
	case p.takes("real"):
		return api.TyReal
	case p.takes("boolean"):
		return api.TyBool
	}
	return api.TyNone
}

// single reads what stands behind the word own and the type of a declaration that is not one of arrays.
func (p *parser) single(own bool, typ int) api.Decl {
	switch {
	case !own && p.takes("procedure"):
		return p.procedure(typ)
	case typ == api.TyNone:
		return p.switches()
	}
	return api.Decl{Kind: api.DeVar, Own: own, Type: typ, Names: listOf(p, ",", unlimited, p.name)}
}

func (p *parser) switches() api.Decl {
	p.need("switch")
	d := api.Decl{Kind: api.DeSwitch, Names: []string{p.name()}}
	p.need(":=")
	d.Exps = listOf(p, ",", unlimited, p.expression)
	return d
}

// arrays reads the segments behind the word array of a declaration that begins where from says.
func (p *parser) arrays(from start, own bool, typ int) []api.Decl {
	if typ == api.TyNone {
		typ = api.TyReal
	}
	list := listOf(p, ",", unlimited, p.segment)
	for i := range list {
		list[i].Own, list[i].Type = own, typ
	}
	// What stands ahead of all segments belongs to the first one.
	p.spans[from.spans].first = from.token
	return list
}

// segment reads identifiers of arrays, and their bounds.
func (p *parser) segment() api.Decl {
	from := p.begin()
	d := api.Decl{Kind: api.DeArray, Names: listOf(p, ",", unlimited, p.name)}
	p.need("[")
	d.Exps = slices.Concat(listOf(p, ",", api.MaxDims, p.bounds)...)
	p.need("]")
	p.end(from)
	return d
}

// bounds reads the bounds of a dimension.
func (p *parser) bounds() []api.Exp {
	lower := p.expression()
	p.need(":")
	return []api.Exp{lower, p.expression()}
}
