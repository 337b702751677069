package integer_test

import (
	"math/big"
	"slices"
	"testing"

	"manorboy/api"
	"manorboy/integer"
)

// P1.1, I1.
func TestValid(t *testing.T) {
	for _, n := range edgeInts() {
		if !integer.Valid(n) {
			t.Errorf("Valid(%d) = false", n)
		}
	}
	for _, n := range badInts() {
		if integer.Valid(n) {
			t.Errorf("Valid(%d) = true", n)
		}
	}
}

// P1.1, I2.
func TestOneOperand(t *testing.T) {
	for _, a := range edgeInts() {
		x := bigOf(a)
		wantOne(t, "Neg", integer.Neg, a, int(new(big.Int).Neg(x).Int64()), api.OK)
		wantOne(t, "Abs", integer.Abs, a, int(new(big.Int).Abs(x).Int64()), api.OK)
		wantOne(t, "Sign", integer.Sign, a, x.Sign(), api.OK)
	}
	for _, a := range badInts() {
		wantOne(t, "Neg", integer.Neg, a, 0, api.ErrArg)
		wantOne(t, "Abs", integer.Abs, a, 0, api.ErrArg)
		wantOne(t, "Sign", integer.Sign, a, 0, api.ErrArg)
	}
}

// P1.1, I3, I4, I5 and I7, for all pairs of edge integers.
func TestTwoOperands(t *testing.T) {
	for _, a := range edgeInts() {
		for _, b := range edgeInts() {
			checkExact(t, a, b)
			checkDivisions(t, a, b)
		}
	}
}

func checkExact(t *testing.T, a, b int) {
	t.Helper()
	x, y := bigOf(a), bigOf(b)
	for _, c := range []struct {
		name  string
		f     two
		exact *big.Int
	}{
		{"Add", integer.Add, new(big.Int).Add(x, y)},
		{"Sub", integer.Sub, new(big.Int).Sub(x, y)},
		{"Mul", integer.Mul, new(big.Int).Mul(x, y)},
		{"Cmp", integer.Cmp, bigOf(x.Cmp(y))},
	} {
		want, e := fitted(c.exact)
		wantTwo(t, c.name, c.f, a, b, want, e)
	}
}

func checkDivisions(t *testing.T, a, b int) {
	t.Helper()
	if b == 0 {
		for name, f := range divisions() {
			wantTwo(t, name, f, a, 0, 0, api.ErrNone)
		}
		return
	}
	x, y := bigOf(a), bigOf(b)
	quo, rem := new(big.Int).QuoRem(x, y, new(big.Int))
	wantTwo(t, "Quo", integer.Quo, a, b, int(quo.Int64()), api.OK)
	wantTwo(t, "Rem", integer.Rem, a, b, int(rem.Int64()), api.OK)
	// big.Int's Div rounds so that the remainder is not negative, which is down if the divisor is positive.
	down := new(big.Int).Div(x, y)
	if b < 0 {
		down.Div(new(big.Int).Neg(x), new(big.Int).Neg(y))
	}
	wantTwo(t, "Floor", integer.Floor, a, b, int(down.Int64()), api.OK)
	wantTwo(t, "Mod", integer.Mod, a, b, int(new(big.Int).Sub(x, down.Mul(down, y)).Int64()), api.OK)
}

func divisions() map[string]two {
	return map[string]two{"Quo": integer.Quo, "Rem": integer.Rem, "Floor": integer.Floor, "Mod": integer.Mod}
}

// P1.1, Errors: an operand that is not valid is the first error, on either side, and whatever the other operand is.
func TestOperandsNotValid(t *testing.T) {
	operations := divisions()
	operations["Add"], operations["Sub"], operations["Mul"] = integer.Add, integer.Sub, integer.Mul
	operations["Cmp"], operations["Pow"] = integer.Cmp, integer.Pow
	for name, f := range operations {
		for _, bad := range badInts() {
			for _, other := range slices.Concat(fewInts(), badInts()) {
				wantTwo(t, name, f, bad, other, 0, api.ErrArg)
				wantTwo(t, name, f, other, bad, 0, api.ErrArg)
			}
		}
	}
}

// P1.1: the examples of the chapter.
func TestArithmeticExamples(t *testing.T) {
	wantTwo(t, "Add", integer.Add, 2147483646, 1, 2147483647, api.OK)
	wantTwo(t, "Add", integer.Add, 2147483647, 1, 0, api.ErrRange)
	wantTwo(t, "Add", integer.Add, 2147483648, 0, 0, api.ErrArg)
	wantTwo(t, "Mul", integer.Mul, 46340, -46340, -2147395600, api.OK)
	wantTwo(t, "Mul", integer.Mul, 46341, 46341, 0, api.ErrRange)
	wantTwo(t, "Quo", integer.Quo, -7, 2, -3, api.OK)
	wantTwo(t, "Rem", integer.Rem, -7, 2, -1, api.OK)
	wantTwo(t, "Floor", integer.Floor, -7, 2, -4, api.OK)
	wantTwo(t, "Mod", integer.Mod, -7, 2, 1, api.OK)
	wantTwo(t, "Quo", integer.Quo, 7, 0, 0, api.ErrNone)
	wantTwo(t, "Mod", integer.Mod, 0, 0, 0, api.ErrNone)
	wantTwo(t, "Pow", integer.Pow, -2, 30, 1073741824, api.OK)
	wantTwo(t, "Pow", integer.Pow, -2, 31, 0, api.ErrRange)
	wantTwo(t, "Pow", integer.Pow, -1, 2147483647, -1, api.OK)
	wantTwo(t, "Pow", integer.Pow, 0, 0, 0, api.ErrNone)
}

// P1.1, I6. Powers of integers beyond 1 in magnitude are out of range from the exponent 31 on.
func TestPow(t *testing.T) {
	for _, a := range edgeInts() {
		for _, n := range edgeInts() {
			want, e := powerOf(a, n)
			wantTwo(t, "Pow", integer.Pow, a, n, want, e)
		}
	}
	for a := -50; a <= 50; a++ {
		for n := range 40 {
			want, e := powerOf(a, n)
			wantTwo(t, "Pow", integer.Pow, a, n, want, e)
		}
	}
}

func powerOf(a, n int) (int, api.Errno) {
	switch {
	case n < 0:
		return 0, api.ErrArg
	case a == 0 && n == 0:
		return 0, api.ErrNone
	case a == 0:
		return 0, api.OK
	case a == 1 || a == -1 && n%2 == 0:
		return 1, api.OK
	case a == -1:
		return -1, api.OK
	case n > 40:
		return 0, api.ErrRange
	}
	return fitted(new(big.Int).Exp(bigOf(a), bigOf(n), nil))
}

// P1.1, I8.
func TestSum(t *testing.T) {
	for _, x := range []struct {
		l    []int
		want int
		e    api.Errno
	}{
		{nil, 0, api.OK},
		{[]int{}, 0, api.OK},
		{[]int{5}, 5, api.OK},
		{[]int{1, 2, 3, -10}, -4, api.OK},
		{[]int{most, 1, -1}, most, api.OK},
		{[]int{1, most, -1}, most, api.OK},
		{[]int{-1, -most, 1}, -most, api.OK},
		{[]int{most, most, most, -most, -most, -most}, 0, api.OK},
		{[]int{most, 1}, 0, api.ErrRange},
		{[]int{-most, -1}, 0, api.ErrRange},
		{[]int{most, most, -most, 1}, 0, api.ErrRange},
		{[]int{most + 1}, 0, api.ErrArg},
		{[]int{-most - 1, 1}, 0, api.ErrArg},
		{[]int{most, 1, most + 1}, 0, api.ErrArg},
		{[]int{most, most, -most - 1}, 0, api.ErrArg},
	} {
		if n, e := integer.Sum(x.l); n != x.want || e != x.e {
			t.Errorf("Sum(%v) = %d, %d; want %d, %d", x.l, n, e, x.want, x.e)
		}
	}
	for _, bad := range badInts() {
		if n, e := integer.Sum([]int{1, bad, -bad}); n != 0 || e != api.ErrArg {
			t.Errorf("Sum with %d = %d, %d", bad, n, e)
		}
	}
}

// P1.1, I8: very many elements, whose partial sums are far out of the range of 32 bits.
func TestSumOfLongLists(t *testing.T) {
	l := slices.Concat(slices.Repeat([]int{most}, 5000), []int{12}, slices.Repeat([]int{-most}, 5000))
	if n, e := integer.Sum(l); n != 12 || e != api.OK {
		t.Error(n, e)
	}
	if n, e := integer.Sum(l[:5001]); n != 0 || e != api.ErrRange {
		t.Error(n, e)
	}
	if n, e := integer.Sum(l[5001:]); n != 0 || e != api.ErrRange {
		t.Error(n, e)
	}
}

// R6: Sum changes neither its list nor what lies behind it.
func TestSumKeepsItsList(t *testing.T) {
	l := []int{3, 1, 2, 9, 8}
	integer.Sum(l[:3])
	if !slices.Equal(l, []int{3, 1, 2, 9, 8}) {
		t.Error(l)
	}
}
