package real

import (
	"strconv"
	"strings"

	"manorboy/api"
)

// greatestK is the greatest k for which some 0.d1 d2 .. * 10^k does not overflow, if d1 is not 0: 10^53 is more than the greatest real.
const greatestK = 53

// A decimal exponent of farExponent or more decides alone, however many digits of the string stand ahead of it.
const farExponent = 1000

// numeral is a numeric string, taken apart: the digits are those ahead of the exponent, without a point and without zeros in front, and the number's magnitude is that of the digits times 10^exponent.
type numeral struct {
	negative bool
	digits   string
	exponent int
}

// Parse returns the rounded value of a numeric string: P2.8.
func Parse(s string) (api.Real, api.Errno) {
	n, ok := numeralOf(s)
	if !ok {
		return api.Real{}, api.ErrForm
	}
	return evaluate(n.number)
}

// Print returns the string of x: P2.9.
func Print(x api.Real) (string, api.Errno) {
	switch {
	case !Valid(x):
		return "", api.ErrArg
	case isZero(x):
		return "0.0", api.OK
	case x.Man < 0:
		return "-" + printed(shortest(opposite(x))), api.OK
	}
	return printed(shortest(x)), api.OK
}

// numeralOf takes a string apart; ok is false if it is not numeric.
func numeralOf(s string) (n numeral, ok bool) {
	rest, negative := strings.CutPrefix(s, "-")
	whole, rest := cutDigits(rest)
	if len(s) > api.MaxReal || whole == "" {
		return numeral{}, false
	}
	fraction := ""
	if after, found := strings.CutPrefix(rest, "."); found {
		fraction, rest = cutDigits(after)
		if fraction == "" {
			return numeral{}, false
		}
	}
	exponent, ok := exponentOf(rest)
	if !ok {
		return numeral{}, false
	}
	return numeral{
		negative: negative,
		digits:   strings.TrimLeft(whole+fraction, "0"),
		exponent: exponent - len(fraction),
	}, true
}

// exponentOf returns the exponent that the end of a numeric string gives, or one that is as far from 0 as matters; ok is false if it has another form.
func exponentOf(s string) (exponent int, ok bool) {
	if s == "" {
		return 0, true
	}
	rest, found := strings.CutPrefix(s, "e")
	negative := strings.HasPrefix(rest, "-")
	if negative || strings.HasPrefix(rest, "+") {
		rest = rest[1:]
	}
	digits, rest := cutDigits(rest)
	if !found || digits == "" || rest != "" {
		return 0, false
	}
	for i := range len(digits) {
		exponent = min(10*exponent+int(digits[i]-'0'), farExponent)
	}
	if negative {
		exponent = -exponent
	}
	return exponent, true
}

// cutDigits cuts a string behind the digits at its beginning.
func cutDigits(s string) (digits, rest string) {
	rest = strings.TrimLeft(s, "0123456789")
	return s[:len(s)-len(rest)], rest
}

// number returns the number that a numeric string denotes. It panics if that overflows so far that it could be too great for fixed point.
func (n numeral) number() exact {
	if n.digits == "" {
		return exact{}
	}
	if len(n.digits)+n.exponent > greatestK {
		panic(api.ErrRange)
	}
	var f fixed
	for i := range len(n.digits) {
		multiply(f[fractionLimbs:], 10, uint64(n.digits[i]-'0'))
	}
	x := f.scaled(n.exponent)
	if n.negative {
		x.Man = -x.Man
	}
	return x
}

// shortest returns the D and the k of P2.9 for a real above 0.
func shortest(x api.Real) (digits string, k int) {
	digits, k = decimal(x)
	for length := 1; length < len(digits); length++ {
		for _, n := range neighbours(digits, length) {
			if decimalRounded(n, k-length) == x {
				text := strconv.Itoa(n)
				// The text is longer if n is a power of ten, and then its digit is worth ten times as much.
				return strings.TrimRight(text, "0"), k + len(text) - length
			}
		}
	}
	return digits, k
}

// decimal returns all digits of a real above 0, and the k with which 0.digits * 10^k is the real itself. The digits do not begin or end with 0.
func decimal(x api.Real) (digits string, k int) {
	var all []byte
	for digit := range fixedOf(x).digits() {
		all = append(all, digit)
	}
	k = wholeChunks * chunkDigits
	for all[0] == '0' {
		all = all[1:]
		k--
	}
	return strings.TrimRight(string(all), "0"), k
}

// neighbours returns the integers next to a number whose integer part has the digits up to length, and whose fraction has the other ones, of which there are some: first the nearer one, or the even one of two.
func neighbours(digits string, length int) [2]int {
	below := 0
	for i := range length {
		below = 10*below + int(digits[i]-'0')
	}
	// Digits that do not end with 0 are compared as strings are.
	fraction := digits[length:]
	if fraction > "5" || fraction == "5" && below%2 == 1 {
		return [2]int{below + 1, below}
	}
	return [2]int{below, below + 1}
}

// decimalRounded returns the rounded value of n * 10^exponent, or 0 if there is none.
func decimalRounded(n, exponent int) api.Real {
	x, _ := evaluate(func() exact {
		var f fixed
		f[fractionLimbs] = uint64(n)
		return f.scaled(exponent)
	})
	return x
}

// printed returns the string of the number 0.digits * 10^k.
func printed(digits string, k int) string {
	switch {
	case k < -3 || k > 9:
		return digits[:1] + "." + orZero(digits[1:]) + "e" + strconv.Itoa(k-1)
	case k < 1:
		return "0." + strings.Repeat("0", -k) + digits
	case len(digits) < k:
		return digits + strings.Repeat("0", k-len(digits)) + ".0"
	}
	return digits[:k] + "." + orZero(digits[k:])
}

// orZero returns the digits behind a point, of which there has to be one at least.
func orZero(digits string) string {
	if digits == "" {
		return "0"
	}
	return digits
}
