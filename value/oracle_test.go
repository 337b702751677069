package value_test

import (
	"math/big"
	"testing"

	"manorboy/api"
	"manorboy/value"
)

// This file is a second reading of the chapter: numbers are exact rationals, and all that is rounded is rounded straight from the definition of chapter 2.

// scaled returns q * 2^n.
func scaled(q *big.Rat, n int) *big.Rat {
	power := new(big.Rat).SetInt(new(big.Int).Lsh(big.NewInt(1), uint(max(n, -n))))
	if n < 0 {
		power.Inv(power)
	}
	return power.Mul(power, q)
}

// down returns the greatest integer that is at most q.
func down(q *big.Rat) *big.Int { return new(big.Int).Div(q.Num(), q.Denom()) }

// exactOf returns the number that a number is.
func exactOf(v api.Value) *big.Rat {
	if v.Kind == api.TyInt {
		return big.NewRat(int64(v.I), 1)
	}
	return scaled(big.NewRat(int64(v.R.Man), 1), v.R.Exp)
}

// nearest returns the rounded value of q.
func nearest(q *big.Rat) (api.Value, api.Errno) {
	magnitude := new(big.Rat).Abs(q)
	exp := max(api.MinExp, magnitude.Num().BitLen()-magnitude.Denom().BitLen()-26)
	for down(scaled(magnitude, -exp)).BitLen() > api.RealBits {
		exp++
	}
	places := scaled(magnitude, -exp)
	man := down(places)
	rest := places.Sub(places, new(big.Rat).SetInt(man))
	if order := rest.Cmp(big.NewRat(1, 2)); order > 0 || order == 0 && man.Bit(0) == 1 {
		man.Add(man, big.NewInt(1))
	}
	x := api.Real{Man: int(man.Int64()) * q.Sign(), Exp: exp}
	if man.BitLen() > api.RealBits {
		x = api.Real{Man: x.Man / 2, Exp: exp + 1}
	}
	switch {
	case x.Man == 0:
		return fraction(api.Real{}), api.OK
	case x.Exp > api.MaxExp:
		return api.Value{}, api.ErrRange
	}
	return fraction(x), api.OK
}

// inRange returns an integer, or ErrRange.
func inRange(n *big.Int) (api.Value, api.Errno) {
	if new(big.Int).Abs(n).Cmp(big.NewInt(api.MaxInt)) > 0 {
		return api.Value{}, api.ErrRange
	}
	return whole(int(n.Int64())), api.OK
}

// realOf returns the real of a number, as an exact number.
func realOf(v api.Value) *big.Rat { return exactOf(must(nearest(exactOf(v)))) }

func bothIntegers(a, b api.Value) bool { return a.Kind == api.TyInt && b.Kind == api.TyInt }

// pair returns the numbers with which an operator computes.
func pair(a, b api.Value) (x, y *big.Rat) {
	if bothIntegers(a, b) {
		return exactOf(a), exactOf(b)
	}
	return realOf(a), realOf(b)
}

// fits reports whether the types of two operands are those of the chapter's table.
func fits(op, a, b int) bool {
	number := func(kind int) bool { return kind == api.TyInt || kind == api.TyReal }
	switch op {
	case api.OpAdd, api.OpSub, api.OpMul, api.OpDiv, api.OpLt, api.OpLe, api.OpEq, api.OpNe, api.OpGe, api.OpGt:
		return number(a) && number(b)
	case api.OpQuo:
		return a == api.TyInt && b == api.TyInt
	case api.OpPow:
		return number(a) && b == api.TyInt
	}
	return a == api.TyBool && b == api.TyBool
}

// wantTwo returns what Two has to return for valid values.
func wantTwo(op int, a, b api.Value) (api.Value, api.Errno) {
	if !fits(op, a.Kind, b.Kind) {
		return api.Value{}, api.ErrType
	}
	switch op {
	case api.OpAdd, api.OpSub, api.OpMul:
		return wantArithmetic(op, a, b)
	case api.OpDiv:
		if exactOf(b).Sign() == 0 {
			return api.Value{}, api.ErrNone
		}
		return nearest(new(big.Rat).Quo(realOf(a), realOf(b)))
	case api.OpQuo:
		if b.I == 0 {
			return api.Value{}, api.ErrNone
		}
		return inRange(new(big.Int).Quo(big.NewInt(int64(a.I)), big.NewInt(int64(b.I))))
	case api.OpPow:
		return wantPower(a, b.I)
	case api.OpLt, api.OpLe, api.OpEq, api.OpNe, api.OpGe, api.OpGt:
		x, y := pair(a, b)
		order := x.Cmp(y)
		return truth([]bool{order < 0, order <= 0, order == 0, order != 0, order >= 0, order > 0}[op-api.OpLt]), api.OK
	}
	// The rows are those of false, false; false, true; true, false; true, true.
	row := 0
	if a.B {
		row += 2
	}
	if b.B {
		row++
	}
	return truth(map[int]string{api.OpAnd: "0001", api.OpOr: "0111", api.OpImp: "1101", api.OpEqv: "1001"}[op][row] == '1'), api.OK
}

func truth(b bool) api.Value { return api.Value{Kind: api.TyBool, B: b} }

func wantArithmetic(op int, a, b api.Value) (api.Value, api.Errno) {
	x, y := pair(a, b)
	z := new(big.Rat)
	switch op {
	case api.OpAdd:
		z.Add(x, y)
	case api.OpSub:
		z.Sub(x, y)
	case api.OpMul:
		z.Mul(x, y)
	}
	if bothIntegers(a, b) {
		return inRange(z.Num())
	}
	return nearest(z)
}

// wantPower returns a power: that of an integer is exact, and each step of that of a real is rounded.
func wantPower(a api.Value, n int) (api.Value, api.Errno) {
	if exactOf(a).Sign() == 0 && n <= 0 {
		return api.Value{}, api.ErrNone
	}
	if a.Kind == api.TyInt && n >= 0 {
		switch {
		case n == 0 || a.I == -1 && n%2 == 0:
			return whole(1), api.OK
		case max(a.I, -a.I) < 2:
			return a, api.OK
		}
		if n > 31 {
			return api.Value{}, api.ErrRange
		}
		return inRange(new(big.Int).Exp(big.NewInt(int64(a.I)), big.NewInt(int64(n)), nil))
	}
	power, e := roundedPower(must(nearest(exactOf(a))), max(n, -n))
	if e != api.OK || n >= 0 {
		return power, e
	}
	if power.R.Man == 0 {
		return api.Value{}, api.ErrRange
	}
	return nearest(new(big.Rat).Inv(exactOf(power)))
}

func roundedPower(a api.Value, n int) (api.Value, api.Errno) {
	if n == 0 {
		return val("1.0"), api.OK
	}
	half, e := roundedPower(a, n/2)
	if e != api.OK {
		return api.Value{}, e
	}
	square, e := nearest(new(big.Rat).Mul(exactOf(half), exactOf(half)))
	if e != api.OK || n%2 == 0 {
		return square, e
	}
	return nearest(new(big.Rat).Mul(exactOf(a), exactOf(square)))
}

// wantConvert returns what Convert has to return for a type and a valid value.
func wantConvert(kind int, v api.Value) (api.Value, api.Errno) {
	switch {
	case kind == v.Kind:
		return v, api.OK
	case kind == api.TyBool || v.Kind == api.TyBool:
		return api.Value{}, api.ErrType
	case kind == api.TyReal:
		return nearest(exactOf(v))
	}
	return inRange(down(new(big.Rat).Add(exactOf(v), big.NewRat(1, 2))))
}

// TestTwoOracle compares Two and Compare with the second reading, for all pairs of values: P7.6 and P7.7.
func TestTwoOracle(t *testing.T) {
	l := append(values(), mixed(1, 40)...)
	errors := map[api.Errno]int{}
	for _, a := range l {
		for _, b := range l {
			for _, op := range operators() {
				want, err := wantTwo(op, a, b)
				got, e := value.Two(op, a, b)
				same(t, "Two", got, e, want, err, op, a, b)
				errors[e]++
			}
			order, e := value.Compare(a, b)
			if a.Kind == api.TyBool || b.Kind == api.TyBool {
				same(t, "Compare", whole(order), e, whole(0), api.ErrType, a, b)
				continue
			}
			x, y := pair(a, b)
			same(t, "Compare", whole(order), e, whole(x.Cmp(y)), api.OK, a, b)
		}
	}
	for _, e := range []api.Errno{api.OK, api.ErrRange, api.ErrNone, api.ErrType} {
		if errors[e] < 100 {
			t.Errorf("only %d times the error %d", errors[e], e)
		}
	}
}

// TestPowerOracle compares powers with the second reading, for many small exponents: P7.6.
func TestPowerOracle(t *testing.T) {
	for _, a := range append(numbers(), mixed(2, 150)...) {
		for n := -35; n <= 35; n++ {
			want, err := wantPower(a, n)
			got, e := value.Two(api.OpPow, a, whole(n))
			same(t, "Two", got, e, want, err, api.OpPow, a, n)
		}
	}
}

// TestConvertOracle compares Convert, Subscript and Write with the second reading: P7.3, P7.4 and P7.10.
func TestConvertOracle(t *testing.T) {
	for _, v := range append(values(), mixed(3, 3000)...) {
		for _, kind := range types() {
			want, err := wantConvert(kind, v)
			got, e := value.Convert(kind, v)
			same(t, "Convert", got, e, want, err, kind, v)
			text, e := value.Write(kind, v)
			if shown, _ := value.Show(got); e != err || e == api.OK && text != shown+"\n" || e != api.OK && text != "" {
				t.Errorf("Write(%d, %v) = %q, %d; want %q, %d", kind, v, text, e, shown, err)
			}
		}
		want, err := wantConvert(api.TyInt, v)
		n, e := value.Subscript(v)
		if n != want.I || e != err {
			t.Errorf("Subscript(%v) = %d, %d; want %d, %d", v, n, e, want.I, err)
		}
	}
}

// TestCallOracle compares Call and One with the second reading: P7.5 and P7.9.
func TestCallOracle(t *testing.T) {
	for _, v := range append(numbers(), mixed(4, 3000)...) {
		q := exactOf(v)
		magnitude, opposite := new(big.Rat).Abs(q), new(big.Rat).Neg(q)
		got, e := value.Call(api.FnAbs, v)
		if e != api.OK || got.Kind != v.Kind || exactOf(got).Cmp(magnitude) != 0 {
			t.Errorf("abs(%v) = %v, %d", v, got, e)
		}
		got, e = value.One(api.OpNeg, v)
		if e != api.OK || got.Kind != v.Kind || exactOf(got).Cmp(opposite) != 0 {
			t.Errorf("-(%v) = %v, %d", v, got, e)
		}
		got, e = value.Call(api.FnSign, v)
		same(t, "sign", got, e, whole(q.Sign()), api.OK, v)
		want, err := inRange(down(q))
		got, e = value.Call(api.FnEntier, v)
		same(t, "entier", got, e, want, err, v)
	}
}

// TestWithinOracle compares Within with the second reading: P7.8.
func TestWithinOracle(t *testing.T) {
	l := mixed(5, 60)
	for i, v := range numbers() {
		if i%4 == 0 || max(v.I, -v.I) == 1<<24+1 {
			l = append(l, v)
		}
	}
	for _, v := range l {
		for _, last := range l {
			x, y := pair(v, last)
			for _, step := range []string{"0", "0.0", "1", "-1", "7.0e-46", "-7.0e-46", "2147483647", "-2147483647", "1.0e30", "-1.0e30"} {
				sign := exactOf(val(step)).Sign()
				want := sign == 0 || sign > 0 && x.Cmp(y) <= 0 || sign < 0 && x.Cmp(y) >= 0
				if got, e := value.Within(v, val(step), last); got != want || e != api.OK {
					t.Errorf("Within(%v, %s, %v) = %v, %d; want %v", v, step, last, got, e, want)
				}
			}
		}
	}
}
