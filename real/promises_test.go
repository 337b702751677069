package real_test

import (
	"math/big"
	"strconv"
	"strings"
	"testing"

	"manorboy/api"
	"manorboy/real"
)

// offBy returns how far a real is from q.
func offBy(x api.Real, q *big.Rat) *big.Rat {
	off := new(big.Rat).Sub(exactOf(x), q)
	return off.Abs(off)
}

// P2.11: neither of the reals next to a result is nearer, so no real is; and exact results are returned.
func TestNearest(t *testing.T) {
	l := append(fewReals(), mixedReals(20, 60)...)
	exactOnes := 0
	for _, o := range operations() {
		for i, x := range l {
			for j, y := range l {
				z, e := o.f(x, y)
				if e != api.OK || (i+j)%3 != 0 {
					continue
				}
				q := o.exact(exactOf(x), exactOf(y))
				off := offBy(z, q)
				if next, e := real.Next(z); e == api.OK && offBy(next, q).Cmp(off) < 0 {
					t.Errorf("%s(%v, %v) = %v; %v is nearer", o.name, x, y, z, next)
				}
				if next, e := real.Next(negated(z)); e == api.OK && offBy(negated(next), q).Cmp(off) < 0 {
					t.Errorf("%s(%v, %v) = %v; %v is nearer", o.name, x, y, z, negated(next))
				}
				if off.Sign() == 0 {
					exactOnes++
				}
			}
		}
	}
	if exactOnes == 0 {
		t.Error("no result is exact")
	}
}

// wantAtMost checks that one result is at most another one, where neither has an error.
func wantAtMost(t *testing.T, law string, left api.Real, e1 api.Errno, right api.Real, e2 api.Errno, arguments ...any) {
	t.Helper()
	if e1 == api.OK && e2 == api.OK && must(real.Cmp(left, right)) > 0 {
		t.Errorf("%s%v: %v > %v", law, arguments, left, right)
	}
}

// P2.12, for neighbours, and for reals that are far apart.
func TestMonotonic(t *testing.T) {
	l := append(fewReals(), mixedReals(21, 100)...)
	for i, x := range l {
		var greater []api.Real
		if next, e := real.Next(x); e == api.OK {
			greater = append(greater, next)
		}
		for j, y := range l {
			if must(real.Cmp(x, y)) <= 0 && (i+j)%9 == 0 {
				greater = append(greater, y)
			}
		}
		for _, y := range greater {
			for _, z := range l {
				wantMonotonic(t, x, y, z)
			}
			if x.Man >= 0 {
				left, e1 := real.Sqrt(x)
				right, e2 := real.Sqrt(y)
				wantAtMost(t, "Sqrt", left, e1, right, e2, x, y)
			}
		}
	}
}

// wantMonotonic checks the laws of P2.12 for x <= y, and any z.
func wantMonotonic(t *testing.T, x, y, z api.Real) {
	t.Helper()
	for name, f := range map[string]binary{"Add": real.Add, "Mul": real.Mul, "Div": real.Div} {
		if name == "Mul" && z.Man < 0 || name == "Div" && z.Man <= 0 {
			continue
		}
		left, e1 := f(x, z)
		right, e2 := f(y, z)
		wantAtMost(t, name, left, e1, right, e2, x, y, z)
	}
	left, e1 := real.Sub(z, y)
	right, e2 := real.Sub(z, x)
	wantAtMost(t, "Sub", left, e1, right, e2, z, y, x)
}

// P2.13: laws of two reals.
func TestAlgebra(t *testing.T) {
	l := append(fewReals(), mixedReals(22, 150)...)
	for _, x := range l {
		for _, y := range l {
			sum, e := real.Add(x, y)
			other, e2 := real.Add(y, x)
			wantReal(t, "x + y = y + x", other, e2, sum, e, x, y)
			other, e2 = real.Add(negated(x), negated(y))
			wantReal(t, "-(x + y) = -x + -y", other, e2, negated(sum), e, x, y)
			product, e := real.Mul(x, y)
			other, e2 = real.Mul(y, x)
			wantReal(t, "x * y = y * x", other, e2, product, e, x, y)
			other, e2 = real.Mul(negated(x), y)
			wantReal(t, "-x * y = -(x * y)", other, e2, negated(product), e, x, y)
			difference, e := real.Sub(x, y)
			if (e == api.OK && difference == zero) != (x == y) {
				t.Errorf("%v - %v = %v, %d", x, y, difference, e)
			}
		}
	}
}

// P2.13: 0 and 1 as operands.
func TestNeutral(t *testing.T) {
	for _, x := range append(edgeReals(), mixedReals(23, 1000)...) {
		for law, f := range map[string]unary{
			"x + 0": func(x api.Real) (api.Real, api.Errno) { return real.Add(x, zero) },
			"0 + x": func(x api.Real) (api.Real, api.Errno) { return real.Add(zero, x) },
			"x - 0": func(x api.Real) (api.Real, api.Errno) { return real.Sub(x, zero) },
			"x * 1": func(x api.Real) (api.Real, api.Errno) { return real.Mul(x, one) },
			"x / 1": func(x api.Real) (api.Real, api.Errno) { return real.Div(x, one) },
		} {
			y, e := f(x)
			wantReal(t, law, y, e, x, api.OK, x)
		}
		y, e := real.Sub(x, x)
		wantReal(t, "x - x", y, e, zero, api.OK, x)
	}
}

// P2.13: small differences, down to the least ones, are not 0; and differences of numbers near to each other are exact.
func TestDifferences(t *testing.T) {
	for _, x := range append(edgeReals(), mixedReals(24, 500)...) {
		if next, e := real.Next(x); e == api.OK {
			if difference, e := real.Sub(next, x); e != api.OK || difference.Man <= 0 {
				t.Errorf("%v - %v = %v, %d", next, x, difference, e)
			}
		}
		for part := 50; part <= 200; part += 3 {
			y, e := real.Mul(x, must(real.Div(real.FromInt(part), real.FromInt(100))))
			half, double := scaled(exactOf(y), -1), scaled(exactOf(y), 1)
			if q := exactOf(x); e != api.OK || q.Cmp(half) < 0 || q.Cmp(double) > 0 {
				continue
			}
			difference, e := real.Sub(x, y)
			if e != api.OK || exactOf(difference).Cmp(new(big.Rat).Sub(exactOf(x), exactOf(y))) != 0 {
				t.Errorf("%v - %v = %v, %d", x, y, difference, e)
			}
			back, e := real.Add(difference, y)
			wantReal(t, "(x - y) + y = x", back, e, x, api.OK, x, y)
		}
	}
}

// P2.14.
func TestPowers(t *testing.T) {
	for _, x := range append(edgeReals(), mixedReals(25, 500)...) {
		power, e := real.Pow(x, 1)
		wantReal(t, "x^1 = x", power, e, x, api.OK, x)
		square, e2 := real.Mul(x, x)
		power, e = real.Pow(x, 2)
		wantReal(t, "x^2 = x * x", power, e, square, e2, x)
		for _, n := range []int{-101, -100, -7, -4, -3, -2, -1, 0, 1, 2, 3, 4, 5, 7, 12, 100, 101} {
			want, wantErr := real.Pow(x, n)
			if n%2 != 0 {
				want = negated(want)
			}
			power, e = real.Pow(negated(x), n)
			wantReal(t, "(-x)^n", power, e, want, wantErr, x, n)
		}
	}
	for n := -150; n <= 173; n++ {
		power, e := real.Pow(real.FromInt(2), n)
		wantReal(t, "2^n", power, e, exactly(t, 1, n), api.OK, n)
	}
}

// P2.14: the root of a square.
func TestRootOfSquare(t *testing.T) {
	checked, bound := 0, exactly(t, 1, -100)
	for _, x := range append(edgeReals(), mixedReals(26, 5000)...) {
		square, e := real.Mul(x, x)
		if e != api.OK || must(real.Cmp(square, bound)) < 0 {
			continue
		}
		checked++
		root, e := real.Sqrt(square)
		wantReal(t, "Sqrt(x * x) = |x|", root, e, api.Real{Man: max(x.Man, -x.Man), Exp: x.Exp}, api.OK, x)
	}
	if checked < 1000 {
		t.Errorf("%d squares only", checked)
	}
}

// P2.15: integers that are reals come back.
func TestIntegersComeBack(t *testing.T) {
	wantBack := func(n int) {
		back, e := real.Entier(real.FromInt(n))
		wantInt(t, "Entier(FromInt(n))", back, e, n, api.OK, n)
	}
	for n := -1 << 24; n <= 1<<24; n += 61 {
		wantBack(n)
	}
	for bit := range 25 {
		for d := -20; d <= 20; d++ {
			if n := 1<<bit + d; n <= 1<<24 {
				wantBack(n)
				wantBack(-n)
			}
		}
	}
}

// P2.15: how Entier and Round belong together.
func TestEntierAndRound(t *testing.T) {
	half := big.NewRat(1, 2)
	halves := 0
	for _, x := range integerReals(t) {
		n, e := real.Entier(x)
		m, e2 := real.Round(x)
		if e != api.OK || e2 != api.OK {
			continue
		}
		q := exactOf(x)
		rest := new(big.Rat).Sub(q, big.NewRat(int64(n), 1))
		if rest.Sign() < 0 || rest.Cmp(big.NewRat(1, 1)) >= 0 {
			t.Errorf("Entier(%v) = %d", x, n)
		}
		if m != n && m != n+1 || offBy(x, big.NewRat(int64(m), 1)).Cmp(half) > 0 {
			t.Errorf("Round(%v) = %d; Entier is %d", x, m, n)
		}
		want := -m
		if rest.Cmp(half) == 0 {
			halves++
			want = -m + 1
		}
		other, e := real.Round(negated(x))
		wantInt(t, "Round(-x)", other, e, want, api.OK, x)
	}
	if halves == 0 {
		t.Error("no real between two integers")
	}
}

// P2.16.
func TestStrings(t *testing.T) {
	for _, x := range append(edgeReals(), mixedReals(27, 3000)...) {
		s, e := real.Print(x)
		if e != api.OK || len(s) > api.MaxReal {
			t.Fatalf("Print(%v) = %q, %d", x, s, e)
		}
		back, e := real.Parse(s)
		wantReal(t, "Parse(Print(x)) = x", back, e, x, api.OK, x, s)
		if x != zero {
			wantShortest(t, x, s)
		}
	}
}

// wantShortest checks that no digit of a string can be left out.
func wantShortest(t *testing.T, x api.Real, s string) {
	t.Helper()
	mantissa, tail, _ := strings.Cut(strings.TrimPrefix(s, "-"), "e")
	exponent, _ := strconv.Atoi(tail) // 0 if there is none
	whole, fraction, _ := strings.Cut(mantissa, ".")
	exponent -= len(fraction)
	digits := strings.TrimLeft(whole+fraction, "0")
	significant := strings.TrimRight(digits, "0")
	exponent += len(digits) - len(significant)
	if len(significant) > 9 {
		t.Errorf("Print(%v) = %q has %d digits", x, s, len(significant))
	}
	if len(significant) == 1 {
		return
	}
	fewer, _ := new(big.Int).SetString(significant[:len(significant)-1], 10)
	for range 2 {
		q := decimalOf(fewer.String(), exponent+1)
		if y, e := nearest(q); e == api.OK && y.Man == max(x.Man, -x.Man) && y.Exp == x.Exp {
			t.Errorf("Print(%v) = %q; %v is enough", x, s, q)
		}
		fewer.Add(fewer, big.NewInt(1))
	}
}
