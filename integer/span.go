package integer

import (
	"iter"

	"manorboy/api"
)

// ValidSpan reports whether a span is valid: I12.
func ValidSpan(s api.Span) bool {
	return bothValid(s.Lo, s.Hi) && s.Lo <= s.Hi
}

// SpanNeg returns the span of all opposites: I13.
func SpanNeg(a api.Span) (api.Span, api.Errno) {
	if !ValidSpan(a) {
		return api.Span{}, api.ErrArg
	}
	return api.Span{Lo: -a.Hi, Hi: -a.Lo}, api.OK
}

// SpanAdd returns the span of all sums, and whether some sum is out of range: I14.
func SpanAdd(a, b api.Span) (s api.Span, may bool, e api.Errno) {
	return clipped(a, b, func(x, y int) int { return x + y })
}

// SpanSub returns the span of all differences, and whether some difference is out of range: I14.
func SpanSub(a, b api.Span) (s api.Span, may bool, e api.Errno) {
	return clipped(a, b, func(x, y int) int { return x - y })
}

// SpanMul returns the span of all products, and whether some product is out of range: I14.
func SpanMul(a, b api.Span) (s api.Span, may bool, e api.Errno) {
	return clipped(a, b, func(x, y int) int { return x * y })
}

// SpanQuo returns the span of all quotients, and whether some divisor is 0: I15.
func SpanQuo(a, b api.Span) (s api.Span, may bool, e api.Errno) {
	if !bothSpansValid(a, b) {
		return api.Span{}, false, api.ErrArg
	}
	// Quotients are monotone in the divisor only as long as its sign stays the same.
	below := api.Span{Lo: b.Lo, Hi: min(b.Hi, -1)}
	above := api.Span{Lo: max(b.Lo, 1), Hi: b.Hi}
	divide := func(x, y int) int { return x / y }
	switch {
	case ValidSpan(below) && ValidSpan(above):
		s = around(extremes(a, below, divide), extremes(a, above, divide))
	case ValidSpan(below):
		s = extremes(a, below, divide)
	case ValidSpan(above):
		s = extremes(a, above, divide)
	default:
		return api.Span{}, false, api.ErrNone
	}
	return s, b.Lo <= 0 && 0 <= b.Hi, api.OK
}

// SpanCmp returns the span of all results of Cmp: I16.
func SpanCmp(a, b api.Span) (api.Span, api.Errno) {
	if !bothSpansValid(a, b) {
		return api.Span{}, api.ErrArg
	}
	return extremes(a, b, compare), api.OK
}

// SpanMeet returns the integers that are in both spans: I17.
func SpanMeet(a, b api.Span) (api.Span, api.Errno) {
	if !bothSpansValid(a, b) {
		return api.Span{}, api.ErrArg
	}
	meet := api.Span{Lo: max(a.Lo, b.Lo), Hi: min(a.Hi, b.Hi)}
	if !ValidSpan(meet) {
		return api.Span{}, api.ErrNone
	}
	return meet, api.OK
}

// SpanJoin returns the least span that contains both: I17.
func SpanJoin(a, b api.Span) (api.Span, api.Errno) {
	if !bothSpansValid(a, b) {
		return api.Span{}, api.ErrArg
	}
	return around(a, b), api.OK
}

// bothSpansValid reports whether a and b are valid spans.
func bothSpansValid(a, b api.Span) bool {
	return ValidSpan(a) && ValidSpan(b)
}

// around returns the least span that contains a and b.
func around(a, b api.Span) api.Span {
	return api.Span{Lo: min(a.Lo, b.Lo), Hi: max(a.Hi, b.Hi)}
}

// clipped returns the span of all results of an operation that are valid, and whether some are not.
func clipped(a, b api.Span, operation func(x, y int) int) (s api.Span, may bool, e api.Errno) {
	if !bothSpansValid(a, b) {
		return api.Span{}, false, api.ErrArg
	}
	exact := extremes(a, b, operation)
	s = api.Span{Lo: max(exact.Lo, -api.MaxInt), Hi: min(exact.Hi, api.MaxInt)}
	if !ValidSpan(s) {
		return api.Span{}, false, api.ErrRange
	}
	return s, s != exact, api.OK
}

// extremes returns the least and the greatest result of an operation on a member of a and a member of b, exactly: its ends need not be valid integers. The operation has to be monotone in each operand while the other one stays the same, so that no other members have a lesser or a greater result than some ends.
func extremes(a, b api.Span, operation func(x, y int) int) api.Span {
	var results [4]int
	at := 0
	for x, y := range ends(a, b) {
		results[at] = operation(x, y)
		at++
	}
	return api.Span{
		Lo: min(results[0], results[1], results[2], results[3]),
		Hi: max(results[0], results[1], results[2], results[3]),
	}
}

// ends goes over the four pairs of an end of a and an end of b.
func ends(a, b api.Span) iter.Seq2[int, int] {
	return func(yield func(x, y int) bool) {
		for _, x := range [2]int{a.Lo, a.Hi} {
			for _, y := range [2]int{b.Lo, b.Hi} {
				if !yield(x, y) {
					return
				}
			}
		}
	}
}
