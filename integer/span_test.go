package integer_test

import (
	"math/big"
	"testing"

	"manorboy/api"
	"manorboy/integer"
)

type spans func(a, b api.Span) (s api.Span, may bool, e api.Errno)

type sets func(a, b api.Span) (api.Span, api.Errno)

func span(lo, hi int) api.Span { return api.Span{Lo: lo, Hi: hi} }

// smallSpans are all spans within a distance of 0.
func smallSpans(distance int) []api.Span {
	var l []api.Span
	for lo := -distance; lo <= distance; lo++ {
		for hi := lo; hi <= distance; hi++ {
			l = append(l, span(lo, hi))
		}
	}
	return l
}

// shortSpans are spans of few members around those integers where results begin to leave the range.
func shortSpans() []api.Span {
	var l []api.Span
	for _, n := range []int{0, 2, 46339, most / 2, most - 3} {
		for width := range 4 {
			l = append(l, span(n, n+width), span(-n-width, -n), span(n-width, n))
		}
	}
	return append(l, span(-3, 2))
}

// longSpans are spans between edge integers.
func longSpans() []api.Span {
	ends := []int{-most, 1 - most, -46341, -46340, -7, -1, 0, 1, 2, 46340, 46341, most - 1, most}
	var l []api.Span
	for i, lo := range ends {
		for _, hi := range ends[i:] {
			l = append(l, span(lo, hi))
		}
	}
	return l
}

// badSpans are spans that are not valid.
func badSpans() []api.Span {
	l := []api.Span{span(1, 0), span(most, -most), span(0, -1), span(most, most-1), span(-most, -most-1)}
	for _, bad := range badInts() {
		l = append(l, span(bad, 0), span(0, bad), span(bad, bad), span(-most, bad), span(bad, most))
	}
	return l
}

// P1.1, I12.
func TestValidSpan(t *testing.T) {
	for _, l := range [][]api.Span{smallSpans(3), shortSpans(), longSpans()} {
		for _, s := range l {
			if !integer.ValidSpan(s) {
				t.Errorf("ValidSpan(%v) = false", s)
			}
		}
	}
	for _, s := range badSpans() {
		if integer.ValidSpan(s) {
			t.Errorf("ValidSpan(%v) = true", s)
		}
	}
}

// P1.1, I13.
func TestSpanNeg(t *testing.T) {
	for _, s := range longSpans() {
		if n, e := integer.SpanNeg(s); n != span(-s.Hi, -s.Lo) || e != api.OK {
			t.Errorf("SpanNeg(%v) = %v, %d", s, n, e)
		}
	}
	for _, s := range badSpans() {
		if n, e := integer.SpanNeg(s); n != span(0, 0) || e != api.ErrArg {
			t.Errorf("SpanNeg(%v) = %v, %d", s, n, e)
		}
	}
}

// P1.1: the examples of the chapter, and spans at the ends of the range.
func TestSpanExamples(t *testing.T) {
	for _, x := range []struct {
		name string
		f    spans
		a, b api.Span
		want api.Span
		may  bool
		e    api.Errno
	}{
		{"SpanMul", integer.SpanMul, span(-3, 4), span(2, 5), span(-15, 20), false, api.OK},
		{"SpanAdd", integer.SpanAdd, span(0, most), span(1, 1), span(1, most), true, api.OK},
		{"SpanQuo", integer.SpanQuo, span(-7, 9), span(-2, 3), span(-9, 9), true, api.OK},
		{"SpanQuo", integer.SpanQuo, span(1, 2), span(0, 0), span(0, 0), false, api.ErrNone},
		{"SpanQuo", integer.SpanQuo, span(-7, 9), span(0, 3), span(-7, 9), true, api.OK},
		{"SpanQuo", integer.SpanQuo, span(-7, 9), span(-3, 0), span(-9, 7), true, api.OK},
		{"SpanQuo", integer.SpanQuo, span(10, 20), span(3, 4), span(2, 6), false, api.OK},
		{"SpanQuo", integer.SpanQuo, span(-most, most), span(-most, most), span(-most, most), true, api.OK},
		{"SpanQuo", integer.SpanQuo, span(3, 4), span(5, 6), span(0, 0), false, api.OK},
		{"SpanMul", integer.SpanMul, span(-most, most), span(-most, most), span(-most, most), true, api.OK},
		{"SpanMul", integer.SpanMul, span(46341, 50000), span(46341, 46342), span(0, 0), false, api.ErrRange},
		{"SpanMul", integer.SpanMul, span(46341, 50000), span(-46342, -46341), span(0, 0), false, api.ErrRange},
		{"SpanMul", integer.SpanMul, span(0, 50000), span(46341, 46342), span(0, most), true, api.OK},
		{"SpanAdd", integer.SpanAdd, span(most, most), span(0, 1), span(most, most), true, api.OK},
		{"SpanAdd", integer.SpanAdd, span(most, most), span(1, 2), span(0, 0), false, api.ErrRange},
		{"SpanAdd", integer.SpanAdd, span(-most, 1-most), span(-2, -1), span(-most, -most), true, api.OK},
		{"SpanAdd", integer.SpanAdd, span(-most, 1-most), span(-3, -2), span(0, 0), false, api.ErrRange},
		{"SpanAdd", integer.SpanAdd, span(-most, most), span(-1, 1), span(-most, most), true, api.OK},
		{"SpanSub", integer.SpanSub, span(1, 3), span(5, 9), span(-8, -2), false, api.OK},
		{"SpanSub", integer.SpanSub, span(-most, 0), span(-1, 1), span(-most, 1), true, api.OK},
		{"SpanSub", integer.SpanSub, span(most, most), span(-9, -1), span(0, 0), false, api.ErrRange},
	} {
		wantSpans(t, x.name, x.f, x.a, x.b, x.want, x.may, x.e)
	}
	for _, x := range []struct {
		name string
		f    sets
		a, b api.Span
		want api.Span
		e    api.Errno
	}{
		{"SpanCmp", integer.SpanCmp, span(1, 3), span(3, 4), span(-1, 0), api.OK},
		{"SpanCmp", integer.SpanCmp, span(1, 3), span(2, 2), span(-1, 1), api.OK},
		{"SpanCmp", integer.SpanCmp, span(1, 3), span(4, 4), span(-1, -1), api.OK},
		{"SpanCmp", integer.SpanCmp, span(7, 7), span(7, 7), span(0, 0), api.OK},
		{"SpanCmp", integer.SpanCmp, span(most, most), span(-most, most), span(0, 1), api.OK},
		{"SpanMeet", integer.SpanMeet, span(1, 5), span(4, 9), span(4, 5), api.OK},
		{"SpanMeet", integer.SpanMeet, span(1, 2), span(3, 4), span(0, 0), api.ErrNone},
		{"SpanMeet", integer.SpanMeet, span(3, 4), span(1, 2), span(0, 0), api.ErrNone},
		{"SpanMeet", integer.SpanMeet, span(1, 3), span(3, 4), span(3, 3), api.OK},
		{"SpanJoin", integer.SpanJoin, span(1, 2), span(7, 8), span(1, 8), api.OK},
		{"SpanJoin", integer.SpanJoin, span(-most, -most), span(most, most), span(-most, most), api.OK},
	} {
		wantSets(t, x.name, x.f, x.a, x.b, x.want, x.e)
	}
}

// P1.1, Errors: a span that is not valid is the first error, on either side, and whatever the other one is.
func TestSpansNotValid(t *testing.T) {
	for _, bad := range badSpans() {
		for _, other := range []api.Span{span(0, 0), span(1, 2), span(-most, most), span(most, most), span(2, 1), span(0, most+1), span(-1<<62, 1<<62)} {
			for name, f := range spanOperations() {
				wantSpans(t, name, f, bad, other, span(0, 0), false, api.ErrArg)
				wantSpans(t, name, f, other, bad, span(0, 0), false, api.ErrArg)
			}
			for name, f := range setOperations() {
				wantSets(t, name, f, bad, other, span(0, 0), api.ErrArg)
				wantSets(t, name, f, other, bad, span(0, 0), api.ErrArg)
			}
		}
	}
}

func spanOperations() map[string]spans {
	return map[string]spans{"SpanAdd": integer.SpanAdd, "SpanSub": integer.SpanSub, "SpanMul": integer.SpanMul, "SpanQuo": integer.SpanQuo}
}

func setOperations() map[string]sets {
	return map[string]sets{"SpanCmp": integer.SpanCmp, "SpanMeet": integer.SpanMeet, "SpanJoin": integer.SpanJoin}
}

// P1.1, I14 to I16, of long spans: the extreme results are those of ends, and for quotients also those of the divisors next to 0.
func TestLongSpans(t *testing.T) {
	for _, a := range longSpans() {
		for _, b := range longSpans() {
			checkExactSpans(t, a, b)
			checkQuotients(t, a, b)
			lo, hi := bigOf(a.Lo).Cmp(bigOf(b.Hi)), bigOf(a.Hi).Cmp(bigOf(b.Lo))
			wantSets(t, "SpanCmp", integer.SpanCmp, a, b, span(lo, hi), api.OK)
		}
	}
}

func checkExactSpans(t *testing.T, a, b api.Span) {
	t.Helper()
	al, ah, bl, bh := bigOf(a.Lo), bigOf(a.Hi), bigOf(b.Lo), bigOf(b.Hi)
	wantClipped(t, "SpanAdd", integer.SpanAdd, a, b, new(big.Int).Add(al, bl), new(big.Int).Add(ah, bh))
	wantClipped(t, "SpanSub", integer.SpanSub, a, b, new(big.Int).Sub(al, bh), new(big.Int).Sub(ah, bl))
	low, high := new(big.Int).Mul(al, bl), new(big.Int).Mul(al, bl)
	for _, p := range []*big.Int{new(big.Int).Mul(al, bh), new(big.Int).Mul(ah, bl), new(big.Int).Mul(ah, bh)} {
		if p.Cmp(low) < 0 {
			low = p
		}
		if p.Cmp(high) > 0 {
			high = p
		}
	}
	wantClipped(t, "SpanMul", integer.SpanMul, a, b, low, high)
}

// wantClipped checks the span of an operation whose least and greatest exact results are low and high.
func wantClipped(t *testing.T, name string, f spans, a, b api.Span, low, high *big.Int) {
	t.Helper()
	least, greatest := bigOf(-most), bigOf(most)
	if low.Cmp(greatest) > 0 || high.Cmp(least) < 0 {
		wantSpans(t, name, f, a, b, span(0, 0), false, api.ErrRange)
		return
	}
	want, may := span(-most, most), false
	if low.Cmp(least) >= 0 {
		want.Lo = int(low.Int64())
	} else {
		may = true
	}
	if high.Cmp(greatest) <= 0 {
		want.Hi = int(high.Int64())
	} else {
		may = true
	}
	wantSpans(t, name, f, a, b, want, may, api.OK)
}

func checkQuotients(t *testing.T, a, b api.Span) {
	t.Helper()
	if b == span(0, 0) {
		wantSpans(t, "SpanQuo", integer.SpanQuo, a, b, span(0, 0), false, api.ErrNone)
		return
	}
	want := span(most+1, -most-1)
	for _, x := range []int{a.Lo, a.Hi} {
		for _, y := range []int{b.Lo, b.Hi, -1, 1} {
			if y != 0 && isMember(y, b) {
				want = span(min(want.Lo, x/y), max(want.Hi, x/y))
			}
		}
	}
	wantSpans(t, "SpanQuo", integer.SpanQuo, a, b, want, isMember(0, b), api.OK)
}

func isMember(n int, s api.Span) bool { return s.Lo <= n && n <= s.Hi }

func wantSpans(t *testing.T, name string, f spans, a, b, want api.Span, wantMay bool, wantErr api.Errno) {
	t.Helper()
	if s, may, e := f(a, b); s != want || may != wantMay || e != wantErr {
		t.Errorf("%s(%v, %v) = %v, %v, %d; want %v, %v, %d", name, a, b, s, may, e, want, wantMay, wantErr)
	}
}

func wantSets(t *testing.T, name string, f sets, a, b, want api.Span, wantErr api.Errno) {
	t.Helper()
	if s, e := f(a, b); s != want || e != wantErr {
		t.Errorf("%s(%v, %v) = %v, %d; want %v, %d", name, a, b, s, e, want, wantErr)
	}
}
