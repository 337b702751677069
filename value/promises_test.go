package value_test

import (
	"math/big"
	"math/rand"
	"strings"
	"testing"

	"manorboy/api"
	"manorboy/integer"
	"manorboy/tree"
	"manorboy/value"
)

// few are some numbers, for laws about triples.
func few() []api.Value {
	var l []api.Value
	for _, text := range []string{"0", "1", "-1", "2", "-3", "7", "46341", "8388608", "16777216", "16777217", "16777218", "16777219", "-16777217", "2147483647", "-2147483647", "2147483584",
		"0.0", "0.5", "-0.5", "1.0", "1.5", "-2.5", "3.0", "16777216.0", "16777218.0", "16777220.0", "2147483648.0", "2147483520.0", "-2147483648.0", "1.0e30", "-1.0e30", "7.0e-46", "-7.0e-46"} {
		l = append(l, val(text))
	}
	return append(l, mixed(20, 20)...)
}

// TestAlgebra checks P7.13.
func TestAlgebra(t *testing.T) {
	for _, a := range values() {
		for _, b := range values() {
			for _, op := range []int{api.OpAdd, api.OpMul} {
				left, e1 := value.Two(op, a, b)
				right, e2 := value.Two(op, b, a)
				same(t, "order of operands", left, e1, right, e2, op, a, b)
			}
			minus, e1 := value.Two(api.OpSub, a, b)
			opposite, e2 := value.One(api.OpNeg, b)
			if e2 == api.OK {
				opposite, e2 = value.Two(api.OpAdd, a, opposite)
			}
			same(t, "a - b = a + (-b)", minus, e1, opposite, e2, a, b)
		}
	}
	for _, v := range append(numbers(), mixed(21, 1000)...) {
		zero := must(value.Zero(v.Kind))
		sum, e := value.Two(api.OpAdd, v, zero)
		same(t, "a + 0", sum, e, v, api.OK, v)
		sum, e = value.Two(api.OpAdd, zero, v)
		same(t, "0 + a", sum, e, v, api.OK, v)
		product, e := value.Two(api.OpMul, v, whole(1))
		same(t, "a * 1", product, e, v, api.OK, v)
		product, e = value.Two(api.OpMul, whole(1), v)
		same(t, "1 * a", product, e, v, api.OK, v)
	}
}

// TestLogic checks P7.14, for all truth values.
func TestLogic(t *testing.T) {
	two := func(op int, a, b api.Value) api.Value { return must(value.Two(op, a, b)) }
	not := func(a api.Value) api.Value { return must(value.One(api.OpNot, a)) }
	for _, a := range truths() {
		if not(not(a)) != a || not(a) == a {
			t.Errorf("not %v = %v", a, not(a))
		}
		for _, b := range truths() {
			if two(api.OpAnd, a, b) != not(two(api.OpOr, not(a), not(b))) || two(api.OpOr, a, b) != not(two(api.OpAnd, not(a), not(b))) {
				t.Errorf("and, or of %v, %v", a, b)
			}
			if two(api.OpImp, a, b) != two(api.OpOr, not(a), b) {
				t.Errorf("%v imp %v", a, b)
			}
			if two(api.OpEqv, a, b) != two(api.OpAnd, two(api.OpImp, a, b), two(api.OpImp, b, a)) {
				t.Errorf("%v eqv %v", a, b)
			}
		}
		if two(api.OpAnd, a, val("true")) != a || two(api.OpOr, a, val("false")) != a {
			t.Errorf("%v beside a neutral value", a)
		}
	}
}

// TestOrder checks P7.15 for pairs of numbers.
func TestOrder(t *testing.T) {
	for _, a := range few() {
		for _, b := range few() {
			holds := map[int]bool{}
			for op := api.OpLt; op <= api.OpGt; op++ {
				holds[op] = must(value.Two(op, a, b)).B
			}
			count := 0
			for _, op := range []int{api.OpLt, api.OpEq, api.OpGt} {
				if holds[op] {
					count++
				}
			}
			if count != 1 || holds[api.OpGe] == holds[api.OpLt] || holds[api.OpNe] == holds[api.OpEq] || holds[api.OpLe] == holds[api.OpGt] {
				t.Errorf("relations of %v and %v: %v", a, b, holds)
			}
		}
	}
}

// TestTransitive checks P7.15 for triples: numbers of one type, and two integers with a real.
func TestTransitive(t *testing.T) {
	less := func(a, b api.Value) bool { return must(value.Two(api.OpLt, a, b)).B }
	for _, a := range few() {
		for _, b := range few() {
			if a.Kind == b.Kind && less(a, b) {
				wantTransitive(t, a, b)
			}
		}
	}
	for _, l := range [][]api.Value{ascending(integers()), ascending(reals())} {
		for i := range l {
			for k := range l {
				if less(l[i], l[k]) != (i < k) {
					t.Errorf("%v < %v", l[i], l[k])
				}
			}
		}
	}
}

// wantTransitive checks the laws about a number that is less than another one, and third ones.
func wantTransitive(t *testing.T, a, b api.Value) {
	t.Helper()
	for _, c := range few() {
		switch {
		case c.Kind == a.Kind && must(value.Two(api.OpLt, b, c)).B && !must(value.Two(api.OpLt, a, c)).B:
			t.Errorf("%v < %v < %v", a, b, c)
		case c.Kind != a.Kind && a.Kind == api.TyInt && must(value.Two(api.OpLe, b, c)).B && must(value.Two(api.OpGt, a, c)).B:
			t.Errorf("%v < %v <= %v", a, b, c)
		}
	}
}

// TestConversion checks P7.16.
func TestConversion(t *testing.T) {
	for _, v := range append(values(), mixed(22, 1000)...) {
		kept, e := value.Convert(v.Kind, v)
		same(t, "its own type", kept, e, v, api.OK, v)
		for _, kind := range types() {
			once, e := value.Convert(kind, v)
			if e != api.OK {
				continue
			}
			twice, e := value.Convert(kind, once)
			same(t, "Convert twice", twice, e, once, api.OK, kind, v)
		}
		if v.Kind != api.TyReal {
			continue
		}
		if n, e := value.Subscript(v); e == api.OK {
			off := new(big.Rat).Sub(exactOf(v), big.NewRat(int64(n), 1))
			if off.Abs(off).Cmp(big.NewRat(1, 2)) > 0 {
				t.Errorf("the integer of %v is %d", v, n)
			}
		}
	}
	for n := -1 << 24; n <= 1<<24; n += 97 {
		wantBack(t, n)
	}
	for n := range 20 {
		wantBack(t, 1<<24-n)
		wantBack(t, n-1<<24)
	}
}

// wantBack checks that an integer comes back from a real.
func wantBack(t *testing.T, n int) {
	t.Helper()
	back, e := value.Convert(api.TyInt, must(value.Convert(api.TyReal, whole(n))))
	same(t, "back from a real", back, e, whole(n), api.OK, n)
}

// TestConversionOrder checks P7.16: of two numbers, the lesser one becomes none that is greater.
func TestConversionOrder(t *testing.T) {
	for _, kind := range []int{api.TyInt, api.TyReal} {
		var last api.Value
		for i, v := range ascending(append(numbers(), mixed(23, 2000)...)) {
			got, e := value.Convert(kind, v)
			if e != api.OK {
				continue
			}
			if i > 0 && last.Kind != 0 && must(value.Compare(last, got)) > 0 {
				t.Errorf("%v becomes less than %v", v, last)
			}
			last = got
		}
	}
}

// TestDivision checks P7.17.
func TestDivision(t *testing.T) {
	two := func(op int, a, b api.Value) api.Value { return must(value.Two(op, a, b)) }
	l := append(integers(), mixed(24, 60)...)
	for _, a := range l {
		for _, b := range l {
			if !bothIntegers(a, b) || b.I == 0 {
				continue
			}
			quotient := two(api.OpQuo, a, b)
			rest := two(api.OpSub, a, two(api.OpMul, quotient, b))
			if max(rest.I, -rest.I) >= max(b.I, -b.I) || rest.I != 0 && (rest.I < 0) != (a.I < 0) {
				t.Errorf("%d // %d = %d, the rest is %d", a.I, b.I, quotient.I, rest.I)
			}
			if two(api.OpQuo, neg(a), b) != neg(quotient) || two(api.OpQuo, a, neg(b)) != neg(quotient) {
				t.Errorf("%d // %d = %d, and with other signs", a.I, b.I, quotient.I)
			}
		}
	}
}

// TestPowers checks P7.18.
func TestPowers(t *testing.T) {
	checked := 0
	for _, a := range append(numbers(), mixed(25, 300)...) {
		first, e := value.Two(api.OpPow, a, whole(1))
		same(t, "a ^ 1", first, e, a, api.OK, a)
		if exactOf(a).Sign() != 0 {
			none, e := value.Two(api.OpPow, a, whole(0))
			same(t, "a ^ 0", none, e, must(value.Convert(a.Kind, whole(1))), api.OK, a)
		}
		for n := range 40 {
			power, e := value.Two(api.OpPow, a, whole(n))
			if e != api.OK {
				continue
			}
			checked++
			if a.Kind == api.TyInt {
				next, e1 := value.Two(api.OpPow, a, whole(n+1))
				product, e2 := value.Two(api.OpMul, power, a)
				same(t, "a ^ (i + 1)", next, e1, product, e2, a, n)
			} else if n > 0 && power.R.Man != 0 {
				inverse, e1 := value.Two(api.OpPow, a, whole(-n))
				quotient, e2 := value.Two(api.OpDiv, whole(1), power)
				same(t, "a ^ (-n)", inverse, e1, quotient, e2, a, n)
			}
		}
	}
	if checked < 1000 {
		t.Errorf("%d powers only", checked)
	}
}

// TestTypes checks P7.19: the results of all operators, for values of all types.
func TestTypes(t *testing.T) {
	for _, a := range values() {
		for op := api.OpNeg; op <= api.OpNot; op++ {
			got, e := value.One(op, a)
			wantType(t, op, a.Kind, api.TyNone, got, e)
		}
		for _, b := range values() {
			for _, op := range operators() {
				got, e := value.Two(op, a, b)
				wantType(t, op, a.Kind, b.Kind, got, e)
			}
		}
	}
}

func wantType(t *testing.T, op, a, b int, got api.Value, e api.Errno) {
	t.Helper()
	kind, err := value.Result(op, a, b)
	switch {
	case (e == api.ErrType) != (err == api.ErrType):
		t.Errorf("operator %d of types %d and %d: %d; Result: %d", op, a, b, e, err)
	case e == api.OK && kind == api.TyNone && got.Kind != api.TyInt && got.Kind != api.TyReal, e == api.OK && kind != api.TyNone && got.Kind != kind:
		t.Errorf("operator %d of types %d and %d: type %d; Result: %d", op, a, b, got.Kind, kind)
	}
}

// TestBothTypes checks P7.19: powers of integers have both types.
func TestBothTypes(t *testing.T) {
	if kind, e := value.Result(api.OpPow, api.TyInt, api.TyInt); kind != api.TyNone || e != api.OK {
		t.Errorf("Result = %d, %d", kind, e)
	}
	for _, n := range []int{0, 1, 5} {
		if v := must(value.Two(api.OpPow, whole(3), whole(n))); v.Kind != api.TyInt {
			t.Error(v)
		}
		if v := must(value.Two(api.OpPow, whole(3), whole(-n-1))); v.Kind != api.TyReal {
			t.Error(v)
		}
	}
}

// TestTexts checks P7.20.
func TestTexts(t *testing.T) {
	shown := map[string]api.Value{}
	for _, v := range append(values(), mixed(26, 3000)...) {
		text, e := value.Show(v)
		if other, found := shown[text]; e != api.OK || found && other != v {
			t.Errorf("Show(%v) = %q, %d, which is that of %v", v, text, e, other)
		}
		shown[text] = v
		back, e := value.Read(text)
		same(t, "Read(Show)", back, e, v, api.OK, text)
		exp, e := value.Exp(v)
		if e != api.OK {
			t.Errorf("Exp(%v): %d", v, e)
		}
		back, e = value.Literal(exp)
		same(t, "Literal(Exp)", back, e, v, api.OK, v)
		printed, e := tree.PrintExp(exp)
		if strings.ReplaceAll(printed, " ", "") != text || e != api.OK {
			t.Errorf("the text of Exp(%v) is %q, %d; want %q", v, printed, e, text)
		}
	}
}

// TestLoops checks P7.21 for loops that go round up to 300 times: from edges, and by chance.
func TestLoops(t *testing.T) {
	edges := []int{0, 1, -1, 2, 5, -7, 100, 1<<24 - 1, 1 << 24, 1<<24 + 1, -1<<24 - 1, api.MaxInt, api.MaxInt - 1, api.MaxInt - 5, -api.MaxInt, -api.MaxInt + 1, -api.MaxInt + 6}
	steps := []int{1, -1, 2, -2, 3, 5, -5, 100, 1 << 24, -1<<24 - 1, 1 << 30, -1 << 30, api.MaxInt, -api.MaxInt}
	checked := map[bool]int{}
	check := func(first, step, last int) {
		n, over, e := integer.Trips(first, step, last)
		if e != api.OK || n > 300 {
			return
		}
		checked[over]++
		wantTrips(t, first, step, last, n, over)
	}
	for _, first := range edges {
		for _, last := range edges {
			for _, step := range steps {
				check(first, step, last)
			}
		}
	}
	r := rand.New(rand.NewSource(27))
	for range 3000 {
		size := 1 << (1 + r.Intn(31))
		some := func() int { return max(r.Intn(2*size)-size, -api.MaxInt) }
		check(some(), some()|1, some())
	}
	if checked[true] < 100 || checked[false] < 1000 {
		t.Errorf("only %v loops", checked)
	}
}

// wantTrips goes through a loop, at most one time more often than it has to.
func wantTrips(t *testing.T, first, step, last, n int, over bool) {
	t.Helper()
	v, e, trips := whole(first), api.OK, 0
	for e == api.OK && trips <= n && must(value.Within(v, whole(step), whole(last))) {
		trips++
		var next api.Value
		if next, e = value.Two(api.OpAdd, v, whole(step)); e == api.OK {
			v = next
		}
	}
	if trips != n || e != api.OK && e != api.ErrRange || (e == api.ErrRange) != over {
		t.Errorf("the loop from %d by %d to %d goes round %d times, %d; want %d, %v", first, step, last, trips, e, n, over)
	}
}

// TestFunctions checks P7.22.
func TestFunctions(t *testing.T) {
	within := 0
	for _, v := range append(numbers(), mixed(28, 3000)...) {
		abs, sign := must(value.Call(api.FnAbs, v)), must(value.Call(api.FnSign, v))
		product, e := value.Two(api.OpMul, abs, sign)
		same(t, "abs * sign", product, e, v, api.OK, v)
		for _, zero := range []string{"0", "0.0"} {
			order, e := value.Compare(v, val(zero))
			same(t, "sign", sign, api.OK, whole(order), e, v, zero)
		}
		entier, e := value.Call(api.FnEntier, v)
		if v.Kind != api.TyReal || e != api.OK {
			continue
		}
		if must(value.Compare(entier, v)) > 0 {
			t.Errorf("entier(%v) = %v", v, entier)
		}
		if max(entier.I, -entier.I) <= 1<<23 {
			within++
			if above := must(value.Two(api.OpAdd, entier, whole(1))); must(value.Compare(v, above)) >= 0 {
				t.Errorf("entier(%v) = %v", v, entier)
			}
		}
	}
	if within < 500 {
		t.Errorf("only %d reals", within)
	}
}

// TestResultsAreValid checks P7.23, and that nothing stands beside an error: R4.
func TestResultsAreValid(t *testing.T) {
	check := func(v api.Value, e api.Errno) {
		t.Helper()
		if e == api.OK && !value.Valid(v) || e != api.OK && v != (api.Value{}) {
			t.Errorf("the result is %v, %d", v, e)
		}
	}
	for _, kind := range types() {
		check(value.Zero(kind))
	}
	l := append(values(), mixed(29, 40)...)
	for _, a := range l {
		for _, kind := range types() {
			check(value.Convert(kind, a))
		}
		for i := range 3 {
			check(value.One(i, a))
			check(value.Call(i+1, a))
		}
		check(value.Literal(must(value.Exp(a))))
		check(value.Read(must(value.Show(a))))
		for _, b := range l {
			for _, op := range operators() {
				check(value.Two(op, a, b))
			}
		}
	}
}
