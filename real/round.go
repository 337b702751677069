package real

import (
	"math/bits"

	"manorboy/api"
)

// exact is the number Man * 2^Exp before it is rounded. Unlike a real, it may have any Man and Exp, and many forms.
//
// A number that has no such form, such as a third, is given by its first bits and one more, which is 1: see sticky.
type exact api.Real

// sticky returns a mantissa with one more bit, which tells whether there is anything but 0 behind the mantissa. Rounding needs to know no more of that, if the mantissa has more than RealBits bits, or its last one is worth no more than half the least real: then it has all bits that are kept, and the one behind them.
func sticky(man int, more bool) int {
	if more {
		return 2*man + 1
	}
	return 2 * man
}

// evaluate returns the rounded value of what an operation gives: ErrRange if that overflows, or if one of the partial results that the operation rounds does.
func evaluate(operation func() exact) (result api.Real, e api.Errno) {
	defer func() {
		if failure := recover(); failure != nil {
			result, e = api.Real{}, api.ErrRange
		}
	}()
	return rounded(operation()), api.OK
}

// rounded returns the rounded value of a number. It panics on overflow.
func rounded(x exact) api.Real {
	if x.Man == 0 {
		return api.Real{}
	}
	magnitude := uint64(x.Man)
	if x.Man < 0 {
		magnitude = -magnitude
	}
	cut := max(bits.Len64(magnitude)-api.RealBits, api.MinExp-x.Exp)
	man := cutOff(magnitude, cut)
	// If man has been rounded up to 2^RealBits, the index is that of the next exponent's first real.
	index := man + (x.Exp+cut-api.MinExp)*hidden
	if index > api.MaxIndex {
		panic(api.ErrRange)
	}
	if x.Man < 0 {
		index = -index
	}
	return realAt(index)
}

// cutOff takes the last bits off a number, and rounds what is left to the nearest integer, of two to the even one. A negative number of bits adds zeros.
func cutOff(n uint64, cut int) int {
	switch {
	case cut <= 0:
		return int(n << -cut)
	case cut > 63:
		// Mantissas are at most 2^63, which is no more than half of the last place.
		return 0
	}
	half := uint64(1) << (cut - 1)
	kept, rest := n>>cut, n&(2*half-1)
	if rest > half || rest == half && kept%2 == 1 {
		kept++
	}
	return int(kept)
}
