package integer

import (
	"strconv"

	"manorboy/api"
)

// Parse returns the integer that a text denotes: I9.
func Parse(text string) (int, api.Errno) {
	negative, digits := cutSign(text)
	if !allDigits(digits) {
		return 0, api.ErrForm
	}
	n := 0
	for _, digit := range []byte(digits) {
		n = 10*n + int(digit-'0')
		if !Valid(n) {
			return 0, api.ErrRange
		}
	}
	if negative {
		n = -n
	}
	return n, api.OK
}

// Print returns the decimal digits of an integer: I10.
func Print(n int) (string, api.Errno) {
	if !Valid(n) {
		return "", api.ErrArg
	}
	return strconv.Itoa(n), api.OK
}

// cutSign takes the sign off a text, and reports whether it was a minus sign.
func cutSign(text string) (negative bool, rest string) {
	if text == "" || text[0] != '+' && text[0] != '-' {
		return false, text
	}
	return text[0] == '-', text[1:]
}

// allDigits reports whether a text is one or more digits. (A text is looked at as a whole before it is reckoned with, since another form is the first error, wherever it is.)
func allDigits(text string) bool {
	for i := range len(text) {
		if text[i] < '0' || text[i] > '9' {
			return false
		}
	}
	return text != ""
}
