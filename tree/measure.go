package tree

import "manorboy/api"

// extent is the size and the depth of a part, as far as they have been measured.
type extent struct {
	size, depth int
}

// measured returns the extent of a part that is within the limits.
func measured(n node) (x extent, within bool) {
	if !x.add(n, 1) {
		return extent{}, false
	}
	return x, true
}

// isWithin reports whether a part is within the limits.
func isWithin(n node) bool {
	_, within := measured(n)
	return within
}

// add adds a part that stands at a depth of the whole, and reports whether the limits hold still. It gives up as soon as they do not, since it might go on forever in what contains itself.
func (x *extent) add(n node, depth int) bool {
	x.size += n.ownSize()
	x.depth = max(x.depth, depth)
	if x.size > api.MaxNodes || x.depth > api.MaxNest {
		return false
	}
	for _, child := range n.children() {
		if !x.add(child, depth+1) {
			return false
		}
	}
	return true
}

// ownSize returns the size of a part without its children.
func (n node) ownSize() int {
	switch n.kind {
	case api.PaStmt:
		return 1 + len(n.stmt.Labels)
	case api.PaDecl:
		return 1 + len(n.decl.Names) + len(n.decl.Formals)
	}
	return 1
}
