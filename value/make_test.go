package value_test

import (
	"math"
	"math/rand"
	"slices"
	"strconv"
	"testing"

	"manorboy/api"
	"manorboy/real"
	"manorboy/value"
)

// val returns the value with a text, which need not be that of Show.
func val(text string) api.Value {
	if text == "true" || text == "false" {
		return api.Value{Kind: api.TyBool, B: text == "true"}
	}
	if n, err := strconv.Atoi(text); err == nil {
		return whole(n)
	}
	x, e := real.Parse(text)
	if e != api.OK {
		panic(text)
	}
	return fraction(x)
}

func whole(n int) api.Value { return api.Value{Kind: api.TyInt, I: n} }

func fraction(x api.Real) api.Value { return api.Value{Kind: api.TyReal, R: x} }

// outcome returns the value with a text, or the error with a name.
func outcome(text string) (api.Value, api.Errno) {
	for e, name := range map[api.Errno]string{api.ErrArg: "ErrArg", api.ErrRange: "ErrRange", api.ErrNone: "ErrNone", api.ErrForm: "ErrForm", api.ErrKind: "ErrKind", api.ErrType: "ErrType"} {
		if text == name {
			return api.Value{}, e
		}
	}
	return val(text), api.OK
}

// wantOutcome checks a value and an error.
func wantOutcome(t *testing.T, what string, got api.Value, e api.Errno, want string) {
	t.Helper()
	if v, err := outcome(want); got != v || e != err {
		t.Errorf("%s = %v, %d; want %s", what, got, e, want)
	}
}

// same checks that two results are equal, errors included.
func same(t *testing.T, law string, got api.Value, e api.Errno, want api.Value, err api.Errno, arguments ...any) {
	t.Helper()
	if got != want || e != err {
		t.Errorf("%s of %v: %v, %d; want %v, %d", law, arguments, got, e, want, err)
	}
}

// must returns a result without an error.
func must[T any](result T, e api.Errno) T {
	if e != api.OK {
		panic(e)
	}
	return result
}

// integers are integers where an operation can go wrong: small ones, and those next to the limits of reals that are whole, of squares, and of all integers.
func integers() []api.Value {
	var l []api.Value
	for _, n := range []int{0, 1, 2, 3, 5, 7, 10, 23, 24, 30, 31, 32, 150, 151, 1000, 46340, 46341, 1<<23 - 1, 1 << 23, 1<<24 - 1, 1 << 24, 1<<24 + 1, 1<<24 + 2, 1<<24 + 3, 1 << 30,
		2147483520, 2147483583, 2147483584, 2147483585, api.MaxInt - 1, api.MaxInt} {
		l = append(l, whole(n))
		if n != 0 {
			l = append(l, whole(-n))
		}
	}
	return l
}

// reals are reals where an operation can go wrong: 0, numbers with halves, those next to the limits of integers, and the least and the greatest ones.
func reals() []api.Value {
	l := []api.Value{val("0.0")}
	for _, text := range []string{"0.25", "0.49999997", "0.5", "0.50000006", "0.75", "1.0", "1.0000001", "1.5", "2.0", "2.5", "3.0", "3.1415927", "7.0", "0.1", "1000.5", "8388607.5", "8388608.0", "16777214.0", "16777215.0", "16777216.0", "16777218.0",
		"2147483392.0", "2147483520.0", "2147483648.0", "2147483904.0", "4.0e9", "1.0e10", "1.0e-10", "1.0e-30", "1.0e30", "1.0e26", "1.0e-23"} {
		x := val(text).R
		l = append(l, fraction(x), fraction(api.Real{Man: -x.Man, Exp: x.Exp}))
	}
	for _, x := range []api.Real{{Man: 1, Exp: api.MinExp}, {Man: 3, Exp: api.MinExp}, {Man: 1<<23 - 1, Exp: api.MinExp}, {Man: 1 << 23, Exp: api.MinExp}, {Man: 1 << 23, Exp: api.MaxExp}, {Man: 1<<24 - 1, Exp: api.MaxExp}} {
		l = append(l, fraction(x), fraction(api.Real{Man: -x.Man, Exp: x.Exp}))
	}
	return l
}

func truths() []api.Value { return []api.Value{val("false"), val("true")} }

// numbers are integers and reals.
func numbers() []api.Value { return append(integers(), reals()...) }

// values are values of all types.
func values() []api.Value { return append(numbers(), truths()...) }

// mixed are n numbers from a fixed seed, near to each other and far apart.
func mixed(seed int64, n int) []api.Value {
	r := rand.New(rand.NewSource(seed))
	var l []api.Value
	for range n {
		size := 1 << (1 + r.Intn(31))
		switch r.Intn(5) {
		case 0, 1:
			l = append(l, whole(max(r.Intn(2*size)-size, -api.MaxInt)))
		case 2:
			l = append(l, fraction(real.FromInt(r.Intn(2*size)-size)))
		case 3:
			l = append(l, fraction(must(real.Div(real.FromInt(r.Intn(2*size)-size), real.FromInt(1<<r.Intn(8))))))
		case 4:
			l = append(l, fraction(must(real.At(r.Intn(2*api.MaxIndex+1)-api.MaxIndex))))
		}
	}
	return l
}

// invalid are values that are not valid.
func invalid() []api.Value {
	one := real.FromInt(1)
	l := []api.Value{
		{}, {Kind: -1}, {Kind: 4}, {Kind: 4, I: 1}, {I: 1}, {R: one}, {B: true}, {Kind: math.MaxInt}, {Kind: math.MinInt}, {Kind: 5, B: true},
		whole(api.MaxInt + 1), whole(-api.MaxInt - 1), whole(math.MaxInt), whole(math.MinInt), whole(1 << 32), whole(1<<32 + 7),
		{Kind: api.TyInt, R: one}, {Kind: api.TyInt, I: 1, R: one}, {Kind: api.TyInt, B: true}, {Kind: api.TyInt, I: 1, B: true}, {Kind: api.TyInt, R: api.Real{Exp: 1}}, {Kind: api.TyInt, R: api.Real{Man: 1}},
		{Kind: api.TyReal, I: 1}, {Kind: api.TyReal, I: 1, R: one}, {Kind: api.TyReal, B: true}, {Kind: api.TyReal, R: one, B: true}, {Kind: api.TyReal, I: math.MinInt},
		{Kind: api.TyBool, I: 1}, {Kind: api.TyBool, I: -1, B: true}, {Kind: api.TyBool, R: one}, {Kind: api.TyBool, R: one, B: true}, {Kind: api.TyBool, R: api.Real{Exp: 1}}, {Kind: api.TyBool, R: api.Real{Man: 1}},
	}
	for _, x := range []api.Real{{Man: 1}, {Exp: 1}, {Exp: -1}, {Man: 1 << 24}, {Man: 1 << 23, Exp: api.MaxExp + 1}, {Man: 1 << 23, Exp: api.MinExp - 1}, {Man: -1, Exp: api.MinExp + 1}, {Man: math.MinInt, Exp: math.MinInt}} {
		l = append(l, fraction(x))
	}
	return l
}

// noTypes are numbers of no type with values.
func noTypes() []int { return []int{api.TyNone, -1, 4, 5, math.MaxInt, math.MinInt} }

// operators are the operators with two operands.
func operators() []int {
	var l []int
	for op := api.OpAdd; op <= api.OpEqv; op++ {
		l = append(l, op)
	}
	return l
}

// types are the types of values.
func types() []int { return []int{api.TyInt, api.TyReal, api.TyBool} }

// ascending returns numbers of one type in their order, each once.
func ascending(l []api.Value) []api.Value {
	slices.SortFunc(l, func(a, b api.Value) int { return exactOf(a).Cmp(exactOf(b)) })
	return slices.Compact(l)
}

func neg(v api.Value) api.Value { return must(value.One(api.OpNeg, v)) }
