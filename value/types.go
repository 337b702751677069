package value

import "manorboy/api"

// Result returns the type of the result of an operator: P7.11.
func Result(op int, a, b int) (int, api.Errno) {
	if !isApplied(op, a, b) {
		return 0, api.ErrArg
	}
	result, right := resultOf(op, a, b)
	if !right {
		return 0, api.ErrType
	}
	return result, api.OK
}

// isApplied reports whether there is an operator, and it has as many operands as there are types.
func isApplied(op, a, b int) bool {
	switch {
	case op == api.OpNeg || op == api.OpNot:
		return isType(a) && b == api.TyNone
	case api.OpAdd <= op && op <= api.OpEqv:
		return isType(a) && isType(b)
	}
	return false
}

// resultOf returns the type of the result of an operator, and whether it can have operands of these types.
func resultOf(op, a, b int) (result int, right bool) {
	numbers, integers := isNumber(a) && isNumber(b), a == api.TyInt && b == api.TyInt
	switch op {
	case api.OpNeg:
		return a, isNumber(a)
	case api.OpNot:
		return api.TyBool, a == api.TyBool
	case api.OpAdd, api.OpSub, api.OpMul:
		if integers {
			return api.TyInt, true
		}
		return api.TyReal, numbers
	case api.OpDiv:
		return api.TyReal, numbers
	case api.OpQuo:
		return api.TyInt, integers
	case api.OpPow:
		if integers {
			// The sign of the exponent decides.
			return api.TyNone, true
		}
		return api.TyReal, numbers && b == api.TyInt
	case api.OpLt, api.OpLe, api.OpEq, api.OpNe, api.OpGe, api.OpGt:
		return api.TyBool, numbers
	}
	return api.TyBool, a == api.TyBool && b == api.TyBool
}

// isType reports whether there are values of a type.
func isType(kind int) bool { return api.TyInt <= kind && kind <= api.TyBool }

// isNumber reports whether the values of a type are numbers.
func isNumber(kind int) bool { return kind == api.TyInt || kind == api.TyReal }

// checkNumbers returns the first error of values that have to be numbers.
func checkNumbers(values ...api.Value) api.Errno {
	for _, v := range values {
		if !Valid(v) {
			return api.ErrArg
		}
	}
	for _, v := range values {
		if !isNumber(v.Kind) {
			return api.ErrType
		}
	}
	return api.OK
}
