package real_test

import (
	"math"
	"math/big"
	"testing"

	"manorboy/api"
	"manorboy/real"
)

// P2.1.
func TestValid(t *testing.T) {
	for _, x := range append(edgeReals(), mixedReals(1, 1000)...) {
		if !real.Valid(x) {
			t.Errorf("Valid(%v) = false", x)
		}
	}
	for _, x := range badReals() {
		if real.Valid(x) {
			t.Errorf("Valid(%v) = true", x)
		}
	}
}

// P2.1: each number has one normal form at most, so another form of a real is none.
func TestValidForms(t *testing.T) {
	for _, x := range edgeReals() {
		for shift := 1; shift < 40 && x != zero; shift++ {
			if y := (api.Real{Man: x.Man << shift, Exp: x.Exp - shift}); real.Valid(y) {
				t.Errorf("%v and %v are the same number", x, y)
			}
			if y := (api.Real{Man: x.Man >> shift, Exp: x.Exp + shift}); y.Man<<shift == x.Man && real.Valid(y) {
				t.Errorf("%v and %v are the same number", x, y)
			}
		}
	}
}

// P2.1, and the examples.
func TestFromInt(t *testing.T) {
	for _, x := range []struct {
		n    int
		want api.Real
	}{
		{0, zero}, {1, api.Real{Man: low, Exp: -23}}, {-1, api.Real{Man: -low, Exp: -23}}, {3, api.Real{Man: 3 << 22, Exp: -22}},
		{1<<24 - 1, api.Real{Man: high, Exp: 0}}, {1 << 24, api.Real{Man: low, Exp: 1}},
		{16777217, api.Real{Man: 8388608, Exp: 1}}, {16777219, api.Real{Man: low + 2, Exp: 1}}, {-16777219, api.Real{Man: -low - 2, Exp: 1}},
		{1<<25 - 1, api.Real{Man: low, Exp: 2}}, {math.MaxInt, api.Real{Man: low, Exp: 40}}, {math.MinInt, api.Real{Man: -low, Exp: 40}},
		{math.MaxInt - 1<<38 + 1, api.Real{Man: low, Exp: 40}}, {math.MaxInt - 1<<38, api.Real{Man: high, Exp: 39}},
	} {
		if got := real.FromInt(x.n); got != x.want {
			t.Errorf("FromInt(%d) = %v; want %v", x.n, got, x.want)
		}
	}
	for bit := range 63 {
		for d := -70; d <= 70; d++ {
			for _, n := range []int{1<<bit + d, -1<<bit + d, 3<<bit + d, 1<<bit | 1<<(bit/2) + d} {
				want, _ := nearest(new(big.Rat).SetInt64(int64(n)))
				if got := real.FromInt(n); got != want {
					t.Errorf("FromInt(%d) = %v; want %v", n, got, want)
				}
			}
		}
	}
}

// P2.2.
func TestIndex(t *testing.T) {
	for _, x := range []struct {
		real  api.Real
		index int
	}{
		{zero, 0}, {least, 1}, {negated(least), -1}, {api.Real{Man: low - 1, Exp: -150}, low - 1}, {api.Real{Man: low, Exp: -150}, low},
		{api.Real{Man: high, Exp: -150}, high}, {api.Real{Man: low, Exp: -149}, high + 1}, {api.Real{Man: -low, Exp: -149}, -high - 1},
		{api.Real{Man: high, Exp: -149}, 3*low - 1}, {api.Real{Man: low, Exp: -148}, 3 * low}, {one, 128 * low},
		{greatest, api.MaxIndex}, {negated(greatest), -api.MaxIndex}, {api.Real{Man: low, Exp: 150}, 301 * low},
	} {
		n, e := real.Index(x.real)
		wantInt(t, "Index", n, e, x.index, api.OK, x.real)
		y, e := real.At(x.index)
		wantReal(t, "At", y, e, x.real, api.OK, x.index)
	}
	for _, index := range []int{api.MaxIndex + 1, -api.MaxIndex - 1, api.MaxIndex * 2, 1 << 32, -1 << 32, math.MaxInt, math.MinInt} {
		x, e := real.At(index)
		wantReal(t, "At", x, e, zero, api.ErrArg, index)
	}
}

// P2.2.
func TestNext(t *testing.T) {
	for _, x := range []struct {
		real, next api.Real
	}{
		{zero, least}, {negated(least), zero}, {least, api.Real{Man: 2, Exp: -150}}, {api.Real{Man: low - 1, Exp: -150}, api.Real{Man: low, Exp: -150}},
		{api.Real{Man: high, Exp: -150}, api.Real{Man: low, Exp: -149}}, {api.Real{Man: -low, Exp: -149}, api.Real{Man: -high, Exp: -150}},
		{one, api.Real{Man: low + 1, Exp: -23}}, {negated(one), api.Real{Man: -high, Exp: -24}}, {api.Real{Man: high, Exp: 0}, api.Real{Man: low, Exp: 1}},
		{negated(greatest), api.Real{Man: 1 - high, Exp: 150}}, {api.Real{Man: high - 1, Exp: 150}, greatest}, {api.Real{Man: high, Exp: 149}, api.Real{Man: low, Exp: 150}},
	} {
		y, e := real.Next(x.real)
		wantReal(t, "Next", y, e, x.next, api.OK, x.real)
	}
	y, e := real.Next(greatest)
	wantReal(t, "Next", y, e, zero, api.ErrRange, greatest)
}

// P2.3.
func TestSigns(t *testing.T) {
	for _, x := range append(edgeReals(), mixedReals(2, 500)...) {
		y, e := real.Neg(x)
		wantReal(t, "Neg", y, e, negated(x), api.OK, x)
		y, e = real.Abs(x)
		wantReal(t, "Abs", y, e, api.Real{Man: max(x.Man, -x.Man), Exp: x.Exp}, api.OK, x)
		n, e := real.Sign(x)
		wantInt(t, "Sign", n, e, exactOf(x).Sign(), api.OK, x)
	}
}

// P2.3.
func TestCmp(t *testing.T) {
	l := fewReals()
	mixed := mixedReals(3, 100)
	for _, x := range append(l, mixed...) {
		for _, y := range append(l, mixed...) {
			n, e := real.Cmp(x, y)
			wantInt(t, "Cmp", n, e, exactOf(x).Cmp(exactOf(y)), api.OK, x, y)
		}
	}
}

// P2.1 to P2.9: an argument that is not normal is the first error.
func TestNotNormal(t *testing.T) {
	reals := map[string]unary{
		"Next": real.Next, "Neg": real.Neg, "Abs": real.Abs, "Sqrt": real.Sqrt,
		"Pow 0": func(x api.Real) (api.Real, api.Errno) { return real.Pow(x, 0) },
		"Pow 1": func(x api.Real) (api.Real, api.Errno) { return real.Pow(x, 1) },
		"Pow -": func(x api.Real) (api.Real, api.Errno) { return real.Pow(x, -1) },
	}
	for name, f := range map[string]binary{"Add": real.Add, "Sub": real.Sub, "Mul": real.Mul, "Div": real.Div} {
		for _, other := range append(badReals(), zero, one, greatest, negated(greatest)) {
			reals[name+" left"] = func(x api.Real) (api.Real, api.Errno) { return f(x, other) }
			reals[name+" right"] = func(x api.Real) (api.Real, api.Errno) { return f(other, x) }
			wantNotNormal(t, reals)
		}
	}
	for _, x := range badReals() {
		for name, f := range map[string]func(api.Real) (int, api.Errno){"Index": real.Index, "Sign": real.Sign, "Entier": real.Entier, "Round": real.Round} {
			n, e := f(x)
			wantInt(t, name, n, e, 0, api.ErrArg, x)
		}
		n, e := real.Cmp(x, one)
		wantInt(t, "Cmp", n, e, 0, api.ErrArg, x, one)
		n, e = real.Cmp(zero, x)
		wantInt(t, "Cmp", n, e, 0, api.ErrArg, zero, x)
		if s, e := real.Print(x); s != "" || e != api.ErrArg {
			t.Errorf("Print(%v) = %q, %d", x, s, e)
		}
	}
}

func wantNotNormal(t *testing.T, functions map[string]unary) {
	t.Helper()
	for name, f := range functions {
		for _, x := range badReals() {
			y, e := f(x)
			wantReal(t, name, y, e, zero, api.ErrArg, x)
		}
	}
}

// P2.10.
func TestOrder(t *testing.T) {
	l := append(fewReals(), mixedReals(4, 200)...)
	for _, x := range l {
		for _, y := range l {
			i, j := must(real.Index(x)), must(real.Index(y))
			n, e := real.Cmp(x, y)
			wantInt(t, "Cmp", n, e, big.NewInt(int64(i)).Cmp(big.NewInt(int64(j))), api.OK, x, y)
		}
	}
}

// P2.10: the indices are all in use, from one end to the other.
func TestIndicesAndReals(t *testing.T) {
	wantBoth := func(index int) {
		x, e := real.At(index)
		if e != api.OK || !real.Valid(x) {
			t.Fatalf("At(%d) = %v, %d", index, x, e)
		}
		n, e := real.Index(x)
		wantInt(t, "Index", n, e, index, api.OK, x)
	}
	for index := -api.MaxIndex; index <= api.MaxIndex; index += 9973 {
		wantBoth(index)
	}
	for exponent := range 303 {
		for d := -3; d <= 3; d++ {
			if index := exponent*low + d; index <= api.MaxIndex {
				wantBoth(index)
				wantBoth(-index)
			}
		}
	}
	for _, x := range append(edgeReals(), mixedReals(5, 1000)...) {
		y, e := real.At(must(real.Index(x)))
		wantReal(t, "At", y, e, x, api.OK)
	}
}

// P2.10: what is between x and Next(x) is rounded to one of them.
func TestNothingBetween(t *testing.T) {
	for _, x := range append(edgeReals(), mixedReals(6, 300)...) {
		if x == greatest {
			continue
		}
		next := must(real.Next(x))
		wantInt(t, "Cmp", must(real.Cmp(x, next)), api.OK, -1, api.OK, x, next)
		step := new(big.Rat).Sub(exactOf(next), exactOf(x))
		for part := int64(1); part < 16; part++ {
			between := new(big.Rat).Mul(step, big.NewRat(part, 16))
			y, e := nearest(between.Add(between, exactOf(x)))
			if e != api.OK || y != x && y != next {
				t.Errorf("%v is between %v and %v", y, x, next)
			}
		}
	}
}
