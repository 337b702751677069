// Package integer computes with the integers of programs, which have a limited size: layer 1, see shared/doc/01-integer.md.
//
// The numbers from -MaxInt to MaxInt need 32 bits. So the sum, the difference and the product of two of them, and every term that Trips reckons with, are exact in Go's int of 64 bits: each operation reckons first, and looks afterwards whether the result is valid.
package integer

import "manorboy/api"

// Valid reports whether n is an integer of a program: I1.
func Valid(n int) bool {
	return -api.MaxInt <= n && n <= api.MaxInt
}

// Neg returns the opposite of an integer: I2.
func Neg(a int) (int, api.Errno) {
	if !Valid(a) {
		return 0, api.ErrArg
	}
	return -a, api.OK
}

// Abs returns the magnitude of an integer: I2.
func Abs(a int) (int, api.Errno) {
	if !Valid(a) {
		return 0, api.ErrArg
	}
	return max(a, -a), api.OK
}

// Sign returns the sign of an integer: I2.
func Sign(a int) (int, api.Errno) {
	if !Valid(a) {
		return 0, api.ErrArg
	}
	return compare(a, 0), api.OK
}

// Add returns a sum: I3.
func Add(a, b int) (int, api.Errno) {
	if !bothValid(a, b) {
		return 0, api.ErrArg
	}
	return inRange(a + b)
}

// Sub returns a difference: I3.
func Sub(a, b int) (int, api.Errno) {
	if !bothValid(a, b) {
		return 0, api.ErrArg
	}
	return inRange(a - b)
}

// Mul returns a product: I3.
func Mul(a, b int) (int, api.Errno) {
	if !bothValid(a, b) {
		return 0, api.ErrArg
	}
	return inRange(a * b)
}

// Quo returns a quotient, rounded towards zero: I4.
func Quo(a, b int) (int, api.Errno) {
	if e := checkDivision(a, b); e != api.OK {
		return 0, e
	}
	return a / b, api.OK
}

// Rem returns the remainder of Quo: I4.
func Rem(a, b int) (int, api.Errno) {
	if e := checkDivision(a, b); e != api.OK {
		return 0, e
	}
	return a % b, api.OK
}

// Floor returns a quotient, rounded down: I5.
func Floor(a, b int) (int, api.Errno) {
	if e := checkDivision(a, b); e != api.OK {
		return 0, e
	}
	return floor(a, b), api.OK
}

// Mod returns the remainder of Floor: I5.
func Mod(a, b int) (int, api.Errno) {
	if e := checkDivision(a, b); e != api.OK {
		return 0, e
	}
	return a - floor(a, b)*b, api.OK
}

// Pow returns a power: I6.
func Pow(a, n int) (int, api.Errno) {
	if !bothValid(a, n) || n < 0 {
		return 0, api.ErrArg
	}
	if a == 0 && n == 0 {
		return 0, api.ErrNone
	}
	power := 1
	for range fewFactors(a, n) {
		power *= a
		if !Valid(power) {
			return 0, api.ErrRange
		}
	}
	return power, api.OK
}

// Cmp compares two integers: I7.
func Cmp(a, b int) (int, api.Errno) {
	if !bothValid(a, b) {
		return 0, api.ErrArg
	}
	return compare(a, b), api.OK
}

// Sum returns the sum of a list: I8.
func Sum(l []int) (int, api.Errno) {
	sum := 0
	for _, n := range l {
		if !Valid(n) {
			return 0, api.ErrArg
		}
		sum += n
	}
	return inRange(sum)
}

// Trips returns how often a loop with constant bounds is repeated, and whether its variable leaves the range behind it: I11.
func Trips(first, step, last int) (n int, over bool, e api.Errno) {
	if !bothValid(first, last) || !Valid(step) {
		return 0, false, api.ErrArg
	}
	if step == 0 {
		return 0, false, api.ErrNone
	}
	way := last - first
	// If the way leads against the step, first itself is behind last already, and no term is ahead of it.
	if way == 0 || (way > 0) == (step > 0) {
		n = way/step + 1
	}
	return n, !Valid(first + n*step), api.OK
}

// bothValid reports whether a and b are valid.
func bothValid(a, b int) bool {
	return Valid(a) && Valid(b)
}

// inRange returns the exact result of an operation, or ErrRange.
func inRange(n int) (int, api.Errno) {
	if !Valid(n) {
		return 0, api.ErrRange
	}
	return n, api.OK
}

// checkDivision returns why a cannot be divided by b, or OK.
func checkDivision(a, b int) api.Errno {
	if !bothValid(a, b) {
		return api.ErrArg
	}
	if b == 0 {
		return api.ErrNone
	}
	return api.OK
}

// floor returns a divided by b, rounded down.
func floor(a, b int) int {
	quotient := a / b
	// Go rounds towards zero, which is upwards just if the exact quotient is below 0 and not whole.
	if a%b != 0 && (a < 0) != (b < 0) {
		quotient--
	}
	return quotient
}

// fewFactors returns a number of factors that are all a with the same product as n factors. It is at most 2 for those a whose powers never leave the range, so that Pow needs no more than 31 multiplications.
func fewFactors(a, n int) int {
	if a < -1 || a > 1 || n == 0 {
		return n
	}
	return 2 - n%2
}

// compare returns -1, 0 or 1, as a is less than b, equal to b, or greater.
func compare(a, b int) int {
	switch {
	case a < b:
		return -1
	case a > b:
		return 1
	}
	return 0
}
