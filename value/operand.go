package value

import (
	"manorboy/api"
	"manorboy/integer"
	"manorboy/real"
)

// operand is a valid value in an expression.
type operand api.Value

// whole returns an integer.
func whole(n int) operand { return operand{Kind: api.TyInt, I: n} }

// fraction returns a real.
func fraction(x api.Real) operand { return operand{Kind: api.TyReal, R: x} }

// truth returns a truth value.
func truth(b bool) operand { return operand{Kind: api.TyBool, B: b} }

// isInteger reports whether a number is an integer.
func (a operand) isInteger() bool { return a.Kind == api.TyInt }

// asReal returns the real of a number.
func (a operand) asReal() api.Real {
	if a.isInteger() {
		return real.FromInt(a.I)
	}
	return a.R
}

// converted returns a value in a type, which is that of a number if the value is one.
func (a operand) converted(kind int) operand {
	switch {
	case a.Kind == kind:
		return a
	case kind == api.TyInt:
		return whole(must(real.Round(a.R)))
	}
	return fraction(a.asReal())
}

// compared returns -1, 0 or 1, as a number is less than another one, equal to it, or greater.
func (a operand) compared(b operand) int {
	if a.isInteger() && b.isInteger() {
		return must(integer.Cmp(a.I, b.I))
	}
	return must(real.Cmp(a.asReal(), b.asReal()))
}

// sign returns -1, 0 or 1, as a number is below 0, 0, or above it.
func (a operand) sign() int { return a.compared(whole(0)) }

// opposite returns the opposite of a number.
func (a operand) opposite() operand {
	if a.isInteger() {
		return whole(must(integer.Neg(a.I)))
	}
	return fraction(must(real.Neg(a.R)))
}

// magnitude returns the magnitude of a number.
func (a operand) magnitude() operand {
	if a.sign() < 0 {
		return a.opposite()
	}
	return a
}

// entier returns the greatest integer that is at most a number.
func (a operand) entier() operand {
	if a.isInteger() {
		return a
	}
	return whole(must(real.Entier(a.R)))
}

// exp returns the expression with the value a.
func (a operand) exp() api.Exp {
	switch {
	case a == truth(true):
		return api.Exp{Kind: api.ExTrue}
	case a == truth(false):
		return api.Exp{Kind: api.ExFalse}
	case a.sign() < 0:
		return api.Exp{Kind: api.ExOne, Op: api.OpNeg, Args: []api.Exp{a.opposite().exp()}}
	case a.isInteger():
		return api.Exp{Kind: api.ExInt, N: a.I}
	}
	return api.Exp{Kind: api.ExReal, Real: a.R}
}

// unsigned returns the value of a literal without a sign; found is false for other valid expressions.
func unsigned(e api.Exp) (v operand, found bool) {
	switch e.Kind {
	case api.ExInt:
		return whole(e.N), true
	case api.ExReal:
		return fraction(e.Real), true
	case api.ExTrue, api.ExFalse:
		return truth(e.Kind == api.ExTrue), true
	}
	return operand{}, false
}
