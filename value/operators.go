package value

import (
	"manorboy/api"
	"manorboy/integer"
	"manorboy/real"
)

// operator is an operator on two operands. They have types that Result allows.
type operator func(a, b operand) operand

// operatorOf returns an operator on two operands. It looks into one of three maps, since a map is made for each call, and a small one is made much faster.
func operatorOf(op int) operator {
	switch {
	case op <= api.OpPow:
		return arithmetic()[op]
	case op <= api.OpGt:
		return relations()[op]
	}
	return logic()[op]
}

func arithmetic() map[int]operator {
	return map[int]operator{
		api.OpAdd: operand.plus,
		api.OpSub: operand.minus,
		api.OpMul: operand.times,
		api.OpDiv: operand.over,
		api.OpQuo: operand.quotient,
		api.OpPow: operand.power,
	}
}

func relations() map[int]operator {
	return map[int]operator{
		api.OpLt: operand.isLess,
		api.OpLe: operand.isAtMost,
		api.OpEq: operand.isEqual,
		api.OpNe: operand.isOther,
		api.OpGe: operand.isAtLeast,
		api.OpGt: operand.isGreater,
	}
}

func logic() map[int]operator {
	return map[int]operator{
		api.OpAnd: operand.and,
		api.OpOr:  operand.or,
		api.OpImp: operand.implies,
		api.OpEqv: operand.isEquivalent,
	}
}

func (a operand) plus(b operand) operand {
	if a.isInteger() && b.isInteger() {
		return whole(must(integer.Add(a.I, b.I)))
	}
	return fraction(must(real.Add(a.asReal(), b.asReal())))
}

func (a operand) minus(b operand) operand {
	if a.isInteger() && b.isInteger() {
		return whole(must(integer.Sub(a.I, b.I)))
	}
	return fraction(must(real.Sub(a.asReal(), b.asReal())))
}

func (a operand) times(b operand) operand {
	if a.isInteger() && b.isInteger() {
		return whole(must(integer.Mul(a.I, b.I)))
	}
	return fraction(must(real.Mul(a.asReal(), b.asReal())))
}

func (a operand) over(b operand) operand {
	return fraction(must(real.Div(a.asReal(), b.asReal())))
}

func (a operand) quotient(b operand) operand {
	return whole(must(integer.Quo(a.I, b.I)))
}

// power returns a power with an integer as its exponent.
func (a operand) power(b operand) operand {
	switch {
	case a.sign() == 0 && b.I <= 0:
		// Layer 2 would return 1 for a real 0 and the exponent 0.
		panic(failure{api.ErrNone})
	case a.isInteger() && b.I >= 0:
		return whole(must(integer.Pow(a.I, b.I)))
	}
	return fraction(must(real.Pow(a.asReal(), b.I)))
}

func (a operand) isLess(b operand) operand { return truth(a.compared(b) < 0) }

func (a operand) isAtMost(b operand) operand { return truth(a.compared(b) <= 0) }

func (a operand) isEqual(b operand) operand { return truth(a.compared(b) == 0) }

func (a operand) isOther(b operand) operand { return truth(a.compared(b) != 0) }

func (a operand) isAtLeast(b operand) operand { return truth(a.compared(b) >= 0) }

func (a operand) isGreater(b operand) operand { return truth(a.compared(b) > 0) }

func (a operand) and(b operand) operand { return truth(a.B && b.B) }

func (a operand) or(b operand) operand { return truth(a.B || b.B) }

func (a operand) implies(b operand) operand { return truth(!a.B || b.B) }

func (a operand) isEquivalent(b operand) operand { return truth(a == b) }
