package value

import "manorboy/api"

// failure is an error of a part of an expression: what must panics with.
type failure struct{ e api.Errno }

// must returns the result of a function, and panics if that has an error.
func must[T any](result T, e api.Errno) T {
	if e != api.OK {
		panic(failure{e})
	}
	return result
}

// evaluate returns the result of an expression, or the error of that part of it which has failed.
func evaluate[T any](expression func() T) (result T, e api.Errno) {
	defer func() {
		if f, failed := recover().(failure); failed {
			var none T
			result, e = none, f.e
		}
	}()
	return expression(), api.OK
}

// valueOf returns the value of an expression, or its error.
func valueOf(expression func() operand) (api.Value, api.Errno) {
	result, e := evaluate(expression)
	return api.Value(result), e
}
