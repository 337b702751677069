package scope

import (
	"cmp"
	"slices"

	"manorboy/api"
	"manorboy/tree"
)

// scope is a scope. With those around it, it forms a linked list.
type scope struct {
	outer    *scope
	node     int                  // the number of the block or of the procedure declaration whose scope it is; -1 for all other scopes
	isProc   bool                 // whether it is that of a procedure declaration
	declared []declaration        // in their order
	denoted  map[string]api.Place // for each identifier that is declared here the place of its first declaration
}

// declaration is an identifier, the place where it is declared, and whether the scope has declared it already.
type declaration struct {
	name  string
	place api.Place
	again bool
}

// declare adds a declaration behind those that a scope has.
func (s *scope) declare(name string, kind, node, at int) {
	place := api.Place{Kind: kind, Node: node, At: at}
	_, again := s.denoted[name]
	if !again {
		s.denoted[name] = place
	}
	s.declared = append(s.declared, declaration{name, place, again})
}

// find returns the place of what an identifier denotes inside of a scope, and the zero place for an unknown one.
func (s *scope) find(name string) api.Place {
	for ; s != nil; s = s.outer {
		if place, found := s.denoted[name]; found {
			return place
		}
	}
	return api.Place{}
}

// names returns the identifiers that are known inside of a scope, ascending, each once.
func (s *scope) names() []string {
	var names []string
	for ; s != nil; s = s.outer {
		for _, d := range s.declared {
			names = append(names, d.name)
		}
	}
	slices.Sort(names)
	return slices.Compact(names)
}

// isCounted reports whether a scope counts for the level of what is inside.
func (s *scope) isCounted() bool { return s.node >= 0 }

// nest is a valid statement with its parts and scopes. The first scope is that of the standard procedures.
type nest struct {
	parts  []part
	scopes []*scope
}

// nested finds the scopes of a statement.
func nested(s *api.Stmt) (*nest, api.Errno) {
	if e := tree.Check(*s); e != api.OK {
		return nil, e
	}
	n := &nest{parts: numbered(s)}
	n.parts[0].inside = n.listScope(n.standardScope(), 0)
	for number := range n.parts {
		n.enter(number)
	}
	return n, api.OK
}

// open returns a new scope without declarations.
func (n *nest) open(outer *scope, node int) *scope {
	s := &scope{outer: outer, node: node, denoted: map[string]api.Place{}}
	n.scopes = append(n.scopes, s)
	return s
}

func (n *nest) standardScope() *scope {
	s := n.open(nil, -1)
	for i, p := range standard {
		s.declare(p.name, api.BiStandard, -1, i)
	}
	return s
}

// listScope opens the scope of a list of statements.
func (n *nest) listScope(outer *scope, numbers ...int) *scope {
	s := n.open(outer, -1)
	n.declareLabels(s, numbers)
	return s
}

func (n *nest) blockScope(number int) *scope {
	s := n.open(n.parts[number].inside, number)
	children := n.children(number)
	for _, child := range children {
		n.declareNames(s, child)
	}
	n.declareLabels(s, children)
	return s
}

func (n *nest) procScope(number int) *scope {
	s := n.open(n.parts[number].inside, number)
	s.isProc = true
	for i, f := range n.parts[number].decl.Formals {
		s.declare(f.Name, api.BiFormal, number, i)
	}
	return s
}

// declareNames declares what the part with a number declares, if it is a declaration.
func (n *nest) declareNames(s *scope, number int) {
	if d := n.parts[number].decl; d != nil {
		for i, name := range d.Names {
			// The kinds of declarations and those of what they declare are in the same order.
			s.declare(name, d.Kind-api.DeVar+api.BiVar, number, i)
		}
	}
}

// declareLabels declares the labels of those of some parts that are statements.
func (n *nest) declareLabels(s *scope, numbers []int) {
	for _, number := range numbers {
		if p := n.parts[number]; p.stmt != nil {
			for i, label := range p.stmt.Labels {
				s.declare(label, api.BiLabel, number, i)
			}
		}
	}
}

// children returns the numbers of the children of a part.
func (n *nest) children(number int) []int {
	var children []int
	for child := number + 1; child < n.parts[number].end; child = n.parts[child].end {
		children = append(children, child)
	}
	return children
}

// enter opens the scopes that begin with the part with a number, and says of its children inside of which scopes they are. The part itself knows that already.
func (n *nest) enter(number int) {
	p := n.parts[number]
	inside, bounded, alone := p.inside, p.bounded, false
	children := n.children(number)
	switch {
	case p.isStmt(api.StBlock):
		inside = n.blockScope(number)
	case p.isStmt(api.StList):
		inside = n.listScope(inside, children...)
	case p.isDecl(api.DeArray):
		// An array is directly inside of the scope of its block; its bounds are not.
		inside, bounded = inside.outer, inside
	case p.isDecl(api.DeProc):
		inside, alone = n.procScope(number), true
	case p.stmt != nil:
		alone = true
	}
	for _, child := range children {
		c := &n.parts[child]
		c.inside, c.bounded = inside, bounded
		if alone && c.stmt != nil {
			c.inside = n.listScope(inside, child)
		}
	}
}

// declarations returns all declarations, also those of the standard procedures, ascending by their numbers; for one number a procedure ahead of its formal parameters, and otherwise in their order.
func (n *nest) declarations() []declaration {
	var all []declaration
	for _, s := range n.scopes {
		all = append(all, s.declared...)
	}
	slices.SortFunc(all, func(a, b declaration) int {
		return cmp.Or(cmp.Compare(a.place.Node, b.place.Node), cmp.Compare(a.place.Kind, b.place.Kind), cmp.Compare(a.place.At, b.place.At))
	})
	return all
}

// nameAt returns the identifier that is declared at a place.
func (n *nest) nameAt(p api.Place) (name string, found bool) {
search:
	for _, s := range n.scopes {
		for _, d := range s.declared {
			if d.place == p {
				name, found = d.name, true
				break search
			}
		}
	}
	return name, found
}

// scopeAt returns the innermost scope inside of which the part with a number is.
func (n *nest) scopeAt(number int) (*scope, bool) {
	if number < 0 || number >= len(n.parts) {
		return nil, false
	}
	return n.parts[number].inside, true
}

// uses returns the occurrences.
func (n *nest) uses() []api.Use {
	var uses []api.Use
	for number, p := range n.parts {
		if o, found := p.occurrence(); found {
			uses = append(uses, api.Use{Node: number, Name: o.name, Place: p.inside.find(o.name)})
		}
	}
	return uses
}
