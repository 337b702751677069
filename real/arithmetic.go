package real

import (
	"cmp"
	"math/bits"

	"manorboy/api"
)

// room is how many bits a mantissa can be shifted by so that it fits into an int, and the sum of it and another one does, too.
const room = 62 - api.RealBits

// Add returns the rounded sum: P2.4.
func Add(x, y api.Real) (api.Real, api.Errno) {
	if !bothValid(x, y) {
		return api.Real{}, api.ErrArg
	}
	return evaluate(func() exact { return sum(x, y) })
}

// Sub returns the rounded difference: P2.4.
func Sub(x, y api.Real) (api.Real, api.Errno) {
	if !bothValid(x, y) {
		return api.Real{}, api.ErrArg
	}
	return evaluate(func() exact { return sum(x, opposite(y)) })
}

// Mul returns the rounded product: P2.4.
func Mul(x, y api.Real) (api.Real, api.Errno) {
	if !bothValid(x, y) {
		return api.Real{}, api.ErrArg
	}
	return evaluate(func() exact { return product(x, y) })
}

// Div returns the rounded quotient: P2.4.
func Div(x, y api.Real) (api.Real, api.Errno) {
	if !bothValid(x, y) {
		return api.Real{}, api.ErrArg
	}
	if isZero(y) {
		return api.Real{}, api.ErrNone
	}
	return evaluate(func() exact { return quotient(x, y) })
}

// Sqrt returns the rounded square root: P2.5.
func Sqrt(x api.Real) (api.Real, api.Errno) {
	if !Valid(x) {
		return api.Real{}, api.ErrArg
	}
	if x.Man < 0 {
		return api.Real{}, api.ErrNone
	}
	return evaluate(func() exact { return root(x) })
}

// Pow returns a power, each step of which is rounded: P2.6.
func Pow(x api.Real, n int) (api.Real, api.Errno) {
	if !Valid(x) {
		return api.Real{}, api.ErrArg
	}
	if n >= 0 {
		return evaluate(func() exact { return exact(power(x, uint64(n))) })
	}
	if isZero(x) {
		return api.Real{}, api.ErrNone
	}
	// As an unsigned number the opposite of the least int is exact, too.
	factors := -uint64(n)
	return evaluate(func() exact { return reciprocal(power(x, factors)) })
}

// Entier returns the greatest integer that is at most x: P2.7.
func Entier(x api.Real) (int, api.Errno) {
	if !Valid(x) {
		return 0, api.ErrArg
	}
	return ifInteger(floor(exact(x)))
}

// Round returns the greatest integer that is at most x + 1/2: P2.7.
func Round(x api.Real) (int, api.Errno) {
	if !Valid(x) {
		return 0, api.ErrArg
	}
	// x + 1/2 is half of 2x + 1. Rounding down before halving, and once more behind it, is the same as rounding down once.
	doubled := floor(exact{Man: x.Man, Exp: x.Exp + 1})
	return ifInteger((doubled + 1) >> 1)
}

// sum returns the sum of two reals.
func sum(x, y api.Real) exact {
	if isZero(x) {
		x, y = y, x
	}
	if isZero(y) {
		return exact(x)
	}
	if x.Exp < y.Exp {
		x, y = y, x
	}
	apart := x.Exp - y.Exp
	if apart > room {
		// y is less than a quarter of the distance from x to the reals next to it: x is the rounded sum.
		return exact(x)
	}
	return exact{Man: x.Man<<apart + y.Man, Exp: y.Exp}
}

// product returns the product of two reals.
func product(x, y api.Real) exact {
	return exact{Man: x.Man * y.Man, Exp: x.Exp + y.Exp}
}

// quotient returns the quotient of two reals, the second of which is not 0.
func quotient(x, y api.Real) exact {
	dividend, divisor := magnitudeOf(x).Man, magnitudeOf(y).Man
	shift := 62 - bits.Len(uint(dividend))
	dividend <<= shift
	man := sticky(dividend/divisor, dividend%divisor != 0)
	if (x.Man < 0) != (y.Man < 0) {
		man = -man
	}
	return exact{Man: man, Exp: x.Exp - shift - y.Exp - 1}
}

// root returns the square root of a real that is not negative.
func root(x api.Real) exact {
	shift := 62 - bits.Len(uint(x.Man))
	// Half of the exponent has to be an integer.
	if (x.Exp-shift)%2 != 0 {
		shift--
	}
	square := x.Man << shift
	side := wholeRoot(square)
	return exact{Man: sticky(side, side*side != square), Exp: (x.Exp-shift)/2 - 1}
}

// wholeRoot returns the greatest integer whose square is at most n, which is less than 2^62.
func wholeRoot(n int) int {
	side := 0
	for bit := 1 << 30; bit > 0; bit >>= 1 {
		longer := side + bit
		if longer*longer <= n {
			side = longer
		}
	}
	return side
}

// power returns a power as P2.6 defines it. It panics if a product overflows.
func power(x api.Real, n uint64) api.Real {
	if n == 0 {
		return FromInt(1)
	}
	if n%2 == 1 {
		return rounded(product(x, power(x, n-1)))
	}
	half := power(x, n/2)
	return rounded(product(half, half))
}

// reciprocal returns 1 divided by a power that has been rounded. It panics if that is 0.
func reciprocal(x api.Real) exact {
	if isZero(x) {
		panic(api.ErrRange)
	}
	return quotient(FromInt(1), x)
}

// floor returns a number, rounded down, if its magnitude is less than 2^62; otherwise an int that is out of the range of integers.
func floor(x exact) int {
	switch {
	case x.Exp <= 0:
		// A shift to the right rounds down, for numbers below 0 as well.
		return x.Man >> -x.Exp
	case x.Exp > room:
		// x is no less than 2^(RealBits - 1 + room), since all reals but those with the least exponent have full mantissas.
		return cmp.Compare(x.Man, 0) << 61
	}
	return x.Man << x.Exp
}

// ifInteger returns n, or ErrRange if that is no integer of a program.
func ifInteger(n int) (int, api.Errno) {
	if n < -api.MaxInt || n > api.MaxInt {
		return 0, api.ErrRange
	}
	return n, api.OK
}
