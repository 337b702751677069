package real

import (
	"iter"
	"math/bits"

	"manorboy/api"
)

// The parts of a number in fixed point. The fraction of every real, and half the least one, fits into fractionLimbs; the integer part of every real, and the 60 digits that a string can have, into the limbs above them.
const (
	fractionLimbs = 3
	fractionBits  = 64 * fractionLimbs
	wholeChunks   = 3 // chunks of the digits of a real's integer part
)

// chunkDigits is how many decimal digits fit into a limb.
const chunkDigits = 19

// powersOfTen are those that fit into a limb.
var powersOfTen = [chunkDigits + 1]uint64{
	1, 10, 100, 1000, 10000, 100000, 1000000, 10000000, 100000000, 1000000000,
	10000000000, 100000000000, 1000000000000, 10000000000000, 100000000000000, 1000000000000000,
	10000000000000000, 100000000000000000, 1000000000000000000, 10000000000000000000,
}

// fixed is a number without a sign, in units of 2^-fractionBits; the least limb comes first.
type fixed [fractionLimbs + 4]uint64

// fixedOf returns a real above 0 as a number in fixed point.
func fixedOf(x api.Real) fixed {
	var f fixed
	place := x.Exp + fractionBits
	limb := place / 64
	f[limb+1], f[limb] = bits.Mul64(uint64(x.Man), 1<<(place%64))
	return f
}

// digits yields the decimal digits of a real in fixed point, up to the end of its fraction: first wholeChunks*chunkDigits ones of its integer part, zeros in front among them.
func (f fixed) digits() iter.Seq[byte] {
	return func(yield func(byte) bool) {
		for chunk := range f.chunks() {
			for place := chunkDigits - 1; place >= 0; place-- {
				if !yield('0' + byte(chunk/powersOfTen[place]%10)) {
					return
				}
			}
		}
	}
}

// chunks yields the digits of a real in fixed point, chunkDigits at a time.
func (f fixed) chunks() iter.Seq[uint64] {
	return func(yield func(uint64) bool) {
		rest := f
		var whole [wholeChunks]uint64
		for i := range whole {
			whole[wholeChunks-1-i] = divide(rest[fractionLimbs:], powersOfTen[chunkDigits])
		}
		for _, chunk := range whole {
			if !yield(chunk) {
				return
			}
		}
		for anyBit(rest[:fractionLimbs]) {
			if !yield(multiply(rest[:fractionLimbs], powersOfTen[chunkDigits], 0)) {
				return
			}
		}
	}
}

// scaled returns f * 10^exponent, if that fits.
func (f fixed) scaled(exponent int) exact {
	for exponent > 0 {
		step := min(exponent, chunkDigits)
		multiply(f[:], powersOfTen[step], 0)
		exponent -= step
	}
	more := false
	for exponent < 0 {
		step := min(-exponent, chunkDigits)
		rest := divide(f[:], powersOfTen[step])
		more = more || rest != 0
		exponent += step
	}
	return f.leading(more)
}

// leading returns the number f, or a bit more if there is more of it than f.
func (f fixed) leading(more bool) exact {
	from := max(bitLength(f[:])-62, 0)
	limb, shift := from/64, from%64
	man := f[limb] >> shift
	if limb+1 < len(f) {
		man |= f[limb+1] << (64 - shift)
	}
	below := f[limb]&(1<<shift-1) != 0 || anyBit(f[:limb])
	return exact{Man: sticky(int(man), below || more), Exp: from - fractionBits - 1}
}

// multiply sets a number to its product with a factor, plus another number, and returns what does not fit into its limbs.
func multiply(limbs []uint64, factor, plus uint64) uint64 {
	for i := range limbs {
		high, low := bits.Mul64(limbs[i], factor)
		total, carry := bits.Add64(low, plus, 0)
		limbs[i] = total
		plus = high + carry
	}
	return plus
}

// divide sets a number to its quotient by a divisor, and returns the remainder.
func divide(limbs []uint64, divisor uint64) uint64 {
	rest := uint64(0)
	for i := len(limbs) - 1; i >= 0; i-- {
		limbs[i], rest = bits.Div64(rest, limbs[i], divisor)
	}
	return rest
}

// anyBit reports whether a number is not 0.
func anyBit(limbs []uint64) bool {
	return bitLength(limbs) > 0
}

// bitLength returns how many bits a number has.
func bitLength(limbs []uint64) int {
	for i := len(limbs) - 1; i >= 0; i-- {
		if limbs[i] != 0 {
			return 64*i + bits.Len64(limbs[i])
		}
	}
	return 0
}
