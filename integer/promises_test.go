package integer_test

import (
	"slices"
	"strconv"
	"testing"

	"manorboy/api"
	"manorboy/integer"
)

// P1.2: the order of operands, and Sub as the inverse of Add.
func TestArithmeticOfTwo(t *testing.T) {
	for _, a := range edgeInts() {
		for _, b := range edgeInts() {
			for name, f := range map[string]two{"Add": integer.Add, "Mul": integer.Mul} {
				n, e := f(a, b)
				wantTwo(t, name, f, b, a, n, e)
			}
			if sum, e := integer.Add(a, b); e == api.OK {
				wantTwo(t, "Sub", integer.Sub, sum, b, a, api.OK)
				wantTwo(t, "Sub", integer.Sub, sum, a, b, api.OK)
			}
			if d, e := integer.Sub(a, b); e == api.OK {
				wantTwo(t, "Add", integer.Add, d, b, a, api.OK)
			}
		}
	}
}

// P1.2: sums of three, and products of sums. Where the partial results are valid, both ways have the same result, or the same error.
func TestArithmeticOfThree(t *testing.T) {
	compared, failed := 0, 0
	for _, a := range fewInts() {
		for _, b := range fewInts() {
			for _, c := range fewInts() {
				ab, e1 := integer.Add(a, b)
				bc, e2 := integer.Add(b, c)
				if e1 == api.OK && e2 == api.OK {
					n, e := integer.Add(ab, c)
					wantTwo(t, "Add", integer.Add, a, bc, n, e)
					compared++
					if e != api.OK {
						failed++
					}
				}
				left, e3 := integer.Mul(a, b)
				right, e4 := integer.Mul(a, c)
				if e2 == api.OK && e3 == api.OK && e4 == api.OK {
					n, e := integer.Add(left, right)
					wantTwo(t, "Mul", integer.Mul, a, bc, n, e)
				}
			}
		}
	}
	if compared == 0 || failed == 0 || failed == compared {
		t.Errorf("%d sums compared, %d of them out of range", compared, failed)
	}
}

// P1.3.
func TestDivisionsBelongTogether(t *testing.T) {
	for _, a := range edgeInts() {
		for _, b := range edgeInts() {
			if b == 0 {
				continue
			}
			quo, rem := must(t, "Quo")(integer.Quo(a, b)), must(t, "Rem")(integer.Rem(a, b))
			down, mod := must(t, "Floor")(integer.Floor(a, b)), must(t, "Mod")(integer.Mod(a, b))
			if quo*b+rem != a || magnitude(rem) >= magnitude(b) || rem != 0 && (rem < 0) != (a < 0) {
				t.Errorf("%d by %d: Quo %d, Rem %d", a, b, quo, rem)
			}
			if rem != 0 && (rem < 0) != (b < 0) {
				quo--
				rem += b
			}
			if down != quo || mod != rem {
				t.Errorf("%d by %d: Floor %d, Mod %d; want %d, %d", a, b, down, mod, quo, rem)
			}
		}
	}
}

func magnitude(n int) int { return max(n, -n) }

// P1.4.
func TestPowers(t *testing.T) {
	bases := append(fewInts(), -13, -12, -6, -5, -4, 4, 5, 6, 12, 13, 46339)
	for _, a := range bases {
		for m := range 35 {
			power, e := integer.Pow(a, m)
			if e == api.OK && m > 0 && !(a == 0 && m == 1) {
				must(t, "Pow")(integer.Pow(a, m-1))
			}
			for n := range 35 {
				other, e2 := integer.Pow(a, n)
				if e == api.OK && e2 == api.OK {
					product, e3 := integer.Mul(power, other)
					wantTwo(t, "Pow", integer.Pow, a, m+n, product, e3)
				}
			}
		}
	}
	for _, a := range []int{-1, 0, 1} {
		for n := most - 3; n <= most; n++ {
			before := must(t, "Pow")(integer.Pow(a, n-1))
			wantTwo(t, "Pow", integer.Pow, a, n, before*a, api.OK)
		}
	}
}

// P1.5: the order is total, and the sign of the difference.
func TestOrderOfTwo(t *testing.T) {
	for _, a := range edgeInts() {
		wantTwo(t, "Cmp", integer.Cmp, a, a, 0, api.OK)
		for _, b := range edgeInts() {
			order := must(t, "Cmp")(integer.Cmp(a, b))
			if order < -1 || order > 1 || (order == 0) != (a == b) {
				t.Errorf("Cmp(%d, %d) = %d", a, b, order)
			}
			wantTwo(t, "Cmp", integer.Cmp, b, a, -order, api.OK)
			if d, e := integer.Sub(a, b); e == api.OK {
				wantOne(t, "Sign", integer.Sign, d, order, api.OK)
			}
		}
	}
}

// P1.5: transitivity, and the same integer on both sides.
func TestOrderOfThree(t *testing.T) {
	for _, a := range fewInts() {
		for _, b := range fewInts() {
			order := must(t, "Cmp")(integer.Cmp(a, b))
			for _, c := range fewInts() {
				if next := must(t, "Cmp")(integer.Cmp(b, c)); order == next {
					wantTwo(t, "Cmp", integer.Cmp, a, c, order, api.OK)
				}
				left, e1 := integer.Add(a, c)
				right, e2 := integer.Add(b, c)
				if e1 == api.OK && e2 == api.OK {
					wantTwo(t, "Cmp", integer.Cmp, left, right, order, api.OK)
				}
				left, e1 = integer.Mul(a, c)
				right, e2 = integer.Mul(b, c)
				if c > 0 && e1 == api.OK && e2 == api.OK {
					wantTwo(t, "Cmp", integer.Cmp, left, right, order, api.OK)
				}
			}
		}
	}
}

// P1.6.
func TestTextsOfIntegers(t *testing.T) {
	for _, n := range append(edgeInts(), most/10-1, -most/10+1) {
		text, e := integer.Print(n)
		if e != api.OK {
			t.Errorf("Print(%d): error %d", n, e)
		}
		wantParse(t, text, n, api.OK)
		for digit := range 10 {
			longer := 10*n + digit
			if n < 0 {
				longer = 10*n - digit
			}
			want, e := fitted(bigOf(longer))
			wantParse(t, text+strconv.Itoa(digit), want, e)
		}
	}
	for n := -2000; n <= 2000; n++ {
		text, _ := integer.Print(n)
		wantParse(t, text, n, api.OK)
	}
}

// P1.7.
func TestSums(t *testing.T) {
	lists := [][]int{
		nil, {0}, {1, 2, 3}, {most}, {-most}, {most, -1, 1}, {1, most, -1}, {-most, -5, 7}, {most, most, -most}, {-most, most - 1},
		{most, 1}, {5, 4, 3, 2, 1, -15}, {46340, -46341, 65536, -2},
	}
	for _, a := range lists {
		for _, b := range lists {
			left, e1 := integer.Sum(a)
			right, e2 := integer.Sum(b)
			sum, e := integer.Sum(slices.Concat(a, b))
			if e1 == api.OK && e2 == api.OK {
				wantTwo(t, "Add", integer.Add, left, right, sum, e)
			}
			if n, e3 := integer.Sum(slices.Concat(b, a)); n != sum || e3 != e {
				t.Errorf("%v, %v: %d, %d; want %d, %d", b, a, n, e3, sum, e)
			}
		}
	}
}

// P1.7: all orders of some elements.
func TestSumsInAnyOrder(t *testing.T) {
	for _, l := range [][]int{{most, 1, -1, 5, -5}, {most, most, -most, -most, 3}, {most, 1, 1, 0, -1}, {-most, -most, most, -1, 0}} {
		want, wantErr := integer.Sum(l)
		for order := range orders(slices.Clone(l), 0) {
			if n, e := integer.Sum(order); n != want || e != wantErr {
				t.Errorf("Sum(%v) = %d, %d; want %d, %d", order, n, e, want, wantErr)
			}
		}
	}
}

// orders goes over l with the elements from the index from on in all orders.
func orders(l []int, from int) func(yield func([]int) bool) {
	return func(yield func([]int) bool) {
		if from == len(l) {
			yield(l)
			return
		}
		for i := from; i < len(l); i++ {
			l[from], l[i] = l[i], l[from]
			for order := range orders(l, from+1) {
				if !yield(order) {
					return
				}
			}
			l[from], l[i] = l[i], l[from]
		}
	}
}

// P1.8 and P1.9, for all members of small spans, and of short spans at the ends of the range.
func TestSpansOfMembers(t *testing.T) {
	small, short := smallSpans(4), shortSpans()
	for _, l := range [][]api.Span{small, short} {
		for _, a := range l {
			checkOpposites(t, a)
			for _, b := range l {
				for name, f := range spanOperations() {
					checkMembers(t, name, f, a, b)
				}
				checkOrders(t, a, b)
			}
		}
	}
}

// checkOpposites checks that SpanNeg has just the opposites of the members.
func checkOpposites(t *testing.T, a api.Span) {
	t.Helper()
	s, e := integer.SpanNeg(a)
	if e != api.OK || s.Hi-s.Lo != a.Hi-a.Lo {
		t.Errorf("SpanNeg(%v) = %v, %d", a, s, e)
	}
	for x := a.Lo; x <= a.Hi; x++ {
		if n := must(t, "Neg")(integer.Neg(x)); !isMember(n, s) {
			t.Errorf("SpanNeg(%v) = %v, without %d", a, s, n)
		}
	}
}

// results is what an operation does with all members of two spans: its valid results, and how often it reports which error.
type results struct {
	valid  map[int]bool
	errors map[api.Errno]int
	pairs  int
}

func resultsOf(f two, a, b api.Span) results {
	r := results{valid: map[int]bool{}, errors: map[api.Errno]int{}}
	for x := a.Lo; x <= a.Hi; x++ {
		for y := b.Lo; y <= b.Hi; y++ {
			n, e := f(x, y)
			if e == api.OK {
				r.valid[n] = true
			} else {
				r.errors[e]++
			}
			r.pairs++
		}
	}
	return r
}

func operationOf(name string) two {
	return map[string]two{"SpanAdd": integer.Add, "SpanSub": integer.Sub, "SpanMul": integer.Mul, "SpanQuo": integer.Quo}[name]
}

// checkMembers checks that a span has all valid results of members, that its ends are such results unless it says that some are out of range, and that it reports just the errors of members.
func checkMembers(t *testing.T, name string, f spans, a, b api.Span) {
	t.Helper()
	s, may, e := f(a, b)
	r := resultsOf(operationOf(name), a, b)
	failures := r.errors[api.ErrRange] + r.errors[api.ErrNone]
	if e != api.OK {
		if r.errors[e] != r.pairs || s != span(0, 0) || may {
			t.Errorf("%s(%v, %v) = %v, %v, %d: %d of %d have this error", name, a, b, s, may, e, r.errors[e], r.pairs)
		}
		return
	}
	if !integer.ValidSpan(s) || may != (failures > 0) || failures == r.pairs && name == "SpanQuo" {
		t.Errorf("%s(%v, %v) = %v, %v: %d of %d fail", name, a, b, s, may, failures, r.pairs)
	}
	for n := range r.valid {
		if !isMember(n, s) {
			t.Errorf("%s(%v, %v) = %v, without %d", name, a, b, s, n)
		}
	}
	if (!may || name == "SpanQuo") && (!r.valid[s.Lo] || !r.valid[s.Hi]) {
		t.Errorf("%s(%v, %v) = %v: not tight", name, a, b, s)
	}
}

// checkOrders checks SpanCmp in the same way.
func checkOrders(t *testing.T, a, b api.Span) {
	t.Helper()
	s, e := integer.SpanCmp(a, b)
	r := resultsOf(integer.Cmp, a, b)
	if e != api.OK || !r.valid[s.Lo] || !r.valid[s.Hi] {
		t.Errorf("SpanCmp(%v, %v) = %v, %d: not tight", a, b, s, e)
	}
	for n := range r.valid {
		if !isMember(n, s) {
			t.Errorf("SpanCmp(%v, %v) = %v, without %d", a, b, s, n)
		}
	}
}

// P1.8, of long spans: some of their members.
func TestLongSpansContain(t *testing.T) {
	for _, a := range longSpans() {
		for _, b := range longSpans() {
			for name, f := range spanOperations() {
				s, may, e := f(a, b)
				for _, x := range []int{a.Lo, a.Hi, (a.Lo + a.Hi) / 2} {
					for _, y := range []int{b.Lo, b.Hi, (b.Lo + b.Hi) / 2} {
						n, e2 := operationOf(name)(x, y)
						if e2 == api.OK && (e != api.OK || !isMember(n, s)) || e2 != api.OK && !may && e != e2 {
							t.Errorf("%s(%v, %v) = %v, %v, %d, but of %d and %d: %d, %d", name, a, b, s, may, e, x, y, n, e2)
						}
					}
				}
			}
		}
	}
}

// P1.10.
func TestSets(t *testing.T) {
	for _, a := range smallSpans(3) {
		for _, b := range smallSpans(3) {
			meet, e := integer.SpanMeet(a, b)
			join, e2 := integer.SpanJoin(a, b)
			common := 0
			for n := -5; n <= 5; n++ {
				both := isMember(n, a) && isMember(n, b)
				if both {
					common++
				}
				if both != (e == api.OK && isMember(n, meet)) {
					t.Errorf("SpanMeet(%v, %v) = %v, %d: %d", a, b, meet, e, n)
				}
				if (isMember(n, a) || isMember(n, b)) && !isMember(n, join) {
					t.Errorf("SpanJoin(%v, %v) = %v, without %d", a, b, join, n)
				}
			}
			if common == 0 && (e != api.ErrNone || meet != span(0, 0)) {
				t.Errorf("SpanMeet(%v, %v) = %v, %d", a, b, meet, e)
			}
			if e2 != api.OK || !integer.ValidSpan(join) {
				t.Errorf("SpanJoin(%v, %v) = %v, %d", a, b, join, e2)
			}
			checkLeast(t, a, b, join)
		}
	}
}

// checkLeast checks that each span that has all members of a and b has all of their join, too.
func checkLeast(t *testing.T, a, b, join api.Span) {
	t.Helper()
	has := func(s, part api.Span) bool { return isMember(part.Lo, s) && isMember(part.Hi, s) }
	for _, s := range smallSpans(4) {
		if has(s, a) && has(s, b) && !has(s, join) {
			t.Errorf("SpanJoin(%v, %v) = %v is more than %v", a, b, join, s)
		}
	}
}

// P1.10, of long spans: the ends and their neighbours.
func TestSetsOfLongSpans(t *testing.T) {
	for _, a := range longSpans() {
		for _, b := range longSpans() {
			wantSets(t, "SpanJoin", integer.SpanJoin, a, b, span(min(a.Lo, b.Lo), max(a.Hi, b.Hi)), api.OK)
			meet, e := integer.SpanMeet(a, b)
			for _, end := range []int{a.Lo, a.Hi, b.Lo, b.Hi} {
				for n := end - 1; n <= end+1; n++ {
					both := isMember(n, a) && isMember(n, b)
					if both != (e == api.OK && isMember(n, meet)) {
						t.Errorf("SpanMeet(%v, %v) = %v, %d: %d", a, b, meet, e, n)
					}
				}
			}
		}
	}
}

// P1.11.
func TestLoopsThatBeginLater(t *testing.T) {
	ints := append(fewInts(), -5, -4, 4, 5, 6)
	for _, first := range ints {
		for _, last := range ints {
			for _, step := range ints {
				if step != 0 {
					checkLater(t, first, step, last)
				}
			}
		}
	}
}

func checkLater(t *testing.T, first, step, last int) {
	t.Helper()
	n, over, e := integer.Trips(first, step, last)
	beyond := step > 0 && first > last || step < 0 && first < last
	if e != api.OK || n < 0 || (n == 0) != beyond || n == 0 && over {
		t.Errorf("Trips(%d, %d, %d) = %d, %v, %d", first, step, last, n, over, e)
	}
	if n == 0 {
		return
	}
	second, e := integer.Add(first, step)
	if e == api.OK {
		wantTrips(t, second, step, last, n-1, over, api.OK)
	} else if n != 1 || !over {
		t.Errorf("Trips(%d, %d, %d) = %d, %v: the second term is out of range", first, step, last, n, over)
	}
}

// R7: calls do not depend on earlier ones.
func TestCallsKeepNothing(t *testing.T) {
	all := func() []int {
		var l []int
		for _, a := range fewInts() {
			for _, b := range fewInts() {
				for _, f := range []two{integer.Add, integer.Sub, integer.Mul, integer.Quo, integer.Rem, integer.Floor, integer.Mod, integer.Pow, integer.Cmp} {
					n, e := f(a, b)
					l = append(l, n, int(e))
				}
				n, _, e := integer.Trips(a, b, 100)
				s, _, e2 := integer.SpanMul(span(a, b), span(b, a))
				l = append(l, n, int(e), s.Lo, s.Hi, int(e2))
			}
		}
		return l
	}
	if first := all(); !slices.Equal(first, all()) {
		t.Error("a call depends on earlier ones")
	}
}
