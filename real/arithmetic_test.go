package real_test

import (
	"math"
	"math/big"
	"math/rand"
	"strconv"
	"testing"

	"manorboy/api"
	"manorboy/real"
)

type exactBinary func(x, y *big.Rat) *big.Rat

// operation is an operation on reals, and the exact one.
type operation struct {
	name  string
	f     binary
	exact exactBinary
}

func operations() []operation {
	return []operation{
		{"Add", real.Add, func(x, y *big.Rat) *big.Rat { return new(big.Rat).Add(x, y) }},
		{"Sub", real.Sub, func(x, y *big.Rat) *big.Rat { return new(big.Rat).Sub(x, y) }},
		{"Mul", real.Mul, func(x, y *big.Rat) *big.Rat { return new(big.Rat).Mul(x, y) }},
		{"Div", real.Div, func(x, y *big.Rat) *big.Rat { return new(big.Rat).Quo(x, y) }},
	}
}

// wantOperation compares an operation with the rounded value of the exact one, which it returns; nil, if there is none.
func wantOperation(t *testing.T, o operation, x, y api.Real) *big.Rat {
	t.Helper()
	got, e := o.f(x, y)
	if o.name == "Div" && y == zero {
		wantReal(t, "Div", got, e, zero, api.ErrNone, x, y)
		return nil
	}
	q := o.exact(exactOf(x), exactOf(y))
	want, wantErr := nearest(q)
	wantReal(t, o.name, got, e, want, wantErr, x, y)
	return q
}

// P2.4: the examples.
func TestArithmeticExamples(t *testing.T) {
	tiny := exactly(t, 1, -24)
	x, e := real.Add(one, tiny)
	wantReal(t, "Add", x, e, one, api.OK)
	x, e = real.Add(api.Real{Man: low + 1, Exp: -23}, tiny)
	wantReal(t, "Add", x, e, api.Real{Man: low + 2, Exp: -23}, api.OK)
	x, e = real.Sub(exactly(t, low+1, -149), exactly(t, 1, -126))
	wantReal(t, "Sub", x, e, api.Real{Man: 2, Exp: -150}, api.OK)
	x, e = real.Div(one, real.FromInt(3))
	wantReal(t, "Div", x, e, api.Real{Man: 11184811, Exp: -25}, api.OK)
}

// P2.4, on pairs of edges.
func TestArithmeticOfEdges(t *testing.T) {
	for _, o := range operations() {
		for i, x := range edgeReals() {
			for j, y := range fewReals() {
				if (i+j)%2 == 0 {
					x, y = y, x
				}
				wantOperation(t, o, x, y)
			}
		}
	}
}

// P2.4, on mixed pairs, many of which are near to each other.
func TestArithmeticOfMixed(t *testing.T) {
	r := rand.New(rand.NewSource(7))
	for _, o := range operations() {
		l := mixedReals(8, 3000)
		for i, x := range l {
			y := l[r.Intn(len(l))]
			wantOperation(t, o, x, y)
			if i%3 == 0 && x.Exp > api.MinExp {
				y.Man, y.Exp = y.Man|low, max(x.Exp-r.Intn(45), api.MinExp)
				if real.Valid(y) {
					wantOperation(t, o, x, y)
				}
			}
		}
	}
}

// P2.4: sums whose operands are so far apart that the second one matters only a little, or not at all.
func TestSumsFarApart(t *testing.T) {
	add, sub := operations()[0], operations()[1]
	for _, man := range []int{low, low + 1, low + 2, high - 1, high} {
		for _, other := range []int{low, low + 1, high - 1, high} {
			for apart := range 70 {
				x, y := api.Real{Man: man, Exp: 20}, api.Real{Man: other, Exp: 20 - apart}
				for _, z := range []api.Real{y, negated(y)} {
					wantOperation(t, add, x, z)
					wantOperation(t, sub, z, x)
				}
			}
		}
	}
}

// P2.4: ties are rounded to the even mantissa, in both directions, for each operation; quotients are ties only where they are small.
func TestTies(t *testing.T) {
	r := rand.New(rand.NewSource(9))
	ties := map[string]int{}
	try := func(o operation, x, y api.Real) {
		if q := wantOperation(t, o, x, y); q != nil && isTie(q) {
			ties[o.name]++
		}
	}
	for range 600 {
		man, other := low+r.Intn(low), low+r.Intn(low)
		for _, o := range operations()[:2] {
			try(o, api.Real{Man: man, Exp: 1}, api.Real{Man: other | 1, Exp: 0})
			try(o, api.Real{Man: man, Exp: 9}, api.Real{Man: low + 1<<8, Exp: 0})
		}
		few := exactly(t, 2*r.Intn(1<<11)+1, r.Intn(20))
		try(operations()[2], exactly(t, 2*r.Intn(1<<12)+1+1<<12, 0), few)
		try(operations()[2], api.Real{Man: man | 1, Exp: -149}, exactly(t, 1, -1-r.Intn(3)))
		try(operations()[3], api.Real{Man: man, Exp: -149}, exactly(t, 1, 1+r.Intn(3)))
	}
	for _, o := range operations() {
		if ties[o.name] < 50 {
			t.Errorf("%s: %d ties only", o.name, ties[o.name])
		}
	}
}

// P2.4: the least magnitudes, and the rounding to 0.
func TestSmallResults(t *testing.T) {
	half := exactly(t, 1, -1)
	more := api.Real{Man: low + 1, Exp: -24}
	for _, x := range []struct {
		o    operation
		x, y api.Real
		want api.Real
	}{
		{operations()[2], least, half, zero}, {operations()[2], least, more, least}, {operations()[2], negated(least), half, zero},
		{operations()[2], negated(least), more, negated(least)}, {operations()[2], least, least, zero}, {operations()[2], least, api.Real{Man: high, Exp: -25}, zero},
		{operations()[2], api.Real{Man: 3, Exp: -150}, half, api.Real{Man: 2, Exp: -150}}, {operations()[2], api.Real{Man: 5, Exp: -150}, half, api.Real{Man: 2, Exp: -150}},
		{operations()[3], least, real.FromInt(2), zero}, {operations()[3], api.Real{Man: 3, Exp: -150}, real.FromInt(2), api.Real{Man: 2, Exp: -150}},
		{operations()[3], least, greatest, zero}, {operations()[3], api.Real{Man: 2, Exp: -150}, real.FromInt(3), least}, {operations()[3], least, real.FromInt(3), zero},
		{operations()[1], least, least, zero}, {operations()[0], least, least, api.Real{Man: 2, Exp: -150}},
		{operations()[1], api.Real{Man: low, Exp: -150}, least, api.Real{Man: low - 1, Exp: -150}}, {operations()[0], api.Real{Man: low - 1, Exp: -150}, least, api.Real{Man: low, Exp: -150}},
	} {
		got, e := x.o.f(x.x, x.y)
		wantReal(t, x.o.name, got, e, x.want, api.OK, x.x, x.y)
	}
}

// P2.4: what is too great from (2^24 - 1/2) * 2^150 on.
func TestOverflow(t *testing.T) {
	halfStep := exactly(t, 1, 149)
	less := api.Real{Man: high, Exp: 149 - 24}
	two := real.FromInt(2)
	add, sub, mul, div := operations()[0], operations()[1], operations()[2], operations()[3]
	for _, x := range []struct {
		o    operation
		x, y api.Real
		want api.Real
		e    api.Errno
	}{
		{add, greatest, halfStep, zero, api.ErrRange}, {add, greatest, less, greatest, api.OK}, {add, greatest, greatest, zero, api.ErrRange},
		{sub, negated(greatest), halfStep, zero, api.ErrRange}, {sub, negated(greatest), less, negated(greatest), api.OK}, {add, greatest, least, greatest, api.OK},
		{sub, greatest, greatest, zero, api.OK}, {mul, greatest, two, zero, api.ErrRange}, {mul, greatest, greatest, zero, api.ErrRange},
		{mul, greatest, negated(greatest), zero, api.ErrRange}, {mul, exactly(t, 1, 100), exactly(t, 1, 73), exactly(t, 1, 173), api.OK},
		{mul, exactly(t, 1, 100), exactly(t, 1, 74), zero, api.ErrRange}, {mul, greatest, one, greatest, api.OK},
		{mul, greatest, api.Real{Man: low + 1, Exp: -23}, zero, api.ErrRange}, {div, greatest, exactly(t, 1, -1), zero, api.ErrRange},
		{div, one, least, exactly(t, 1, 150), api.OK}, {div, greatest, least, zero, api.ErrRange}, {div, greatest, api.Real{Man: high, Exp: -24}, zero, api.ErrRange},
		{div, negated(greatest), greatest, negated(one), api.OK}, {div, zero, zero, zero, api.ErrNone}, {div, greatest, zero, zero, api.ErrNone},
	} {
		got, e := x.o.f(x.x, x.y)
		wantReal(t, x.o.name, got, e, x.want, x.e, x.x, x.y)
	}
}

// P2.5: the root is between the squares of the middles to its neighbours. (No root is such a middle itself: its square would need 49 bits.)
func TestSqrt(t *testing.T) {
	l := append(edgeReals(), mixedReals(10, 4000)...)
	for n := range 2000 {
		l = append(l, real.FromInt(n), real.FromInt(n*n), api.Real{Man: n + 1, Exp: -150})
	}
	for _, x := range l {
		y, e := real.Sqrt(x)
		if x.Man <= 0 {
			want := api.OK
			if x.Man < 0 {
				want = api.ErrNone
			}
			wantReal(t, "Sqrt", y, e, zero, want, x)
			continue
		}
		if e != api.OK || !real.Valid(y) {
			t.Errorf("Sqrt(%v) = %v, %d", x, y, e)
			continue
		}
		before, next := negated(must(real.Next(negated(y)))), must(real.Next(y))
		if squareOfMiddle(before, y).Cmp(exactOf(x)) >= 0 || squareOfMiddle(y, next).Cmp(exactOf(x)) <= 0 {
			t.Errorf("Sqrt(%v) = %v: %v or %v is nearer", x, y, before, next)
		}
	}
}

func squareOfMiddle(x, y api.Real) *big.Rat {
	middle := new(big.Rat).Add(exactOf(x), exactOf(y))
	middle.Mul(middle, big.NewRat(1, 2))
	return middle.Mul(middle, middle)
}

// powerOf is power of P2.6; ok is false if a product overflows.
func powerOf(x api.Real, n *big.Int) (power api.Real, ok bool) {
	switch {
	case n.Sign() == 0:
		return one, true
	case n.Bit(0) == 1:
		y, ok := powerOf(x, new(big.Int).Sub(n, big.NewInt(1)))
		return productOf(x, y, ok)
	}
	y, ok := powerOf(x, new(big.Int).Rsh(n, 1))
	return productOf(y, y, ok)
}

func productOf(x, y api.Real, ok bool) (api.Real, bool) {
	if !ok {
		return zero, false
	}
	product, e := nearest(new(big.Rat).Mul(exactOf(x), exactOf(y)))
	return product, e == api.OK
}

// wantPower compares Pow with P2.6.
func wantPower(t *testing.T, x api.Real, n int) {
	t.Helper()
	got, e := real.Pow(x, n)
	count := big.NewInt(int64(n))
	power, ok := powerOf(x, count.Abs(count))
	switch {
	case x == zero && n < 0:
		wantReal(t, "Pow", got, e, zero, api.ErrNone, x, n)
	case !ok || n < 0 && power == zero:
		wantReal(t, "Pow", got, e, zero, api.ErrRange, x, n)
	case n < 0:
		want, wantErr := nearest(new(big.Rat).Inv(exactOf(power)))
		wantReal(t, "Pow", got, e, want, wantErr, x, n)
	default:
		wantReal(t, "Pow", got, e, power, api.OK, x, n)
	}
}

// P2.6.
func TestPow(t *testing.T) {
	bases := append(mixedReals(11, 60), zero, one, negated(one), least, greatest, negated(greatest))
	for _, man := range []int{low + 1, low + 5, low * 5 / 4, low * 3 / 2, high} {
		for exp := -26; exp <= -20; exp++ {
			bases = append(bases, api.Real{Man: man, Exp: exp}, api.Real{Man: -man, Exp: exp})
		}
	}
	for _, x := range bases {
		for n := -40; n <= 40; n++ {
			wantPower(t, x, n)
		}
		for _, n := range []int{63, 64, 65, 100, 127, 255, 999, 1 << 20, 1<<31 - 1, 1 << 31, math.MaxInt - 1, math.MaxInt, math.MinInt + 1, math.MinInt} {
			wantPower(t, x, n)
			if n > 0 {
				wantPower(t, x, -n)
			}
		}
	}
}

// P2.6: the order of the products matters, as they are rounded.
func TestPowOrder(t *testing.T) {
	other := 0
	for n := 3; n < 40; n++ {
		x := api.Real{Man: low + 12345*n, Exp: -23}
		wantPower(t, x, n)
		product := one
		for range n {
			product = must(real.Mul(product, x))
		}
		if product != must(real.Pow(x, n)) {
			other++
		}
	}
	if other == 0 {
		t.Error("no power differs from the products one after the other")
	}
}

// P2.6: the examples and the edges, the least int among them.
func TestPowEdges(t *testing.T) {
	two, half := real.FromInt(2), exactly(t, 1, -1)
	for _, x := range []struct {
		x    api.Real
		n    int
		want api.Real
		e    api.Errno
	}{
		{two, -151, zero, api.OK}, {two, -150, least, api.OK}, {two, -173, zero, api.OK}, {two, -174, zero, api.ErrRange}, {two, 173, exactly(t, 1, 173), api.OK}, {two, 174, zero, api.ErrRange},
		{zero, 0, one, api.OK}, {zero, -1, zero, api.ErrNone}, {zero, 1, zero, api.OK}, {zero, math.MinInt, zero, api.ErrNone}, {zero, math.MaxInt, zero, api.OK},
		{half, 150, least, api.OK}, {half, 151, zero, api.OK}, {half, -150, exactly(t, 1, 150), api.OK}, {half, -151, zero, api.ErrRange}, {half, math.MaxInt, zero, api.OK}, {half, math.MinInt, zero, api.ErrRange},
		{one, math.MinInt, one, api.OK}, {negated(one), math.MinInt, one, api.OK}, {negated(one), math.MinInt + 1, negated(one), api.OK}, {negated(one), math.MaxInt, negated(one), api.OK},
		{two, math.MinInt, zero, api.ErrRange}, {two, math.MaxInt, zero, api.ErrRange}, {negated(two), 173, exactly(t, -1, 173), api.OK}, {greatest, 0, one, api.OK}, {greatest, -1, zero, api.OK}, {least, -1, exactly(t, 1, 150), api.OK},
	} {
		got, e := real.Pow(x.x, x.n)
		wantReal(t, "Pow", got, e, x.want, x.e, x.x, x.n)
	}
}

// wantInteger compares an integer with one of any size.
func wantInteger(t *testing.T, name string, got int, e api.Errno, want *big.Int, x api.Real) {
	t.Helper()
	if want.CmpAbs(big.NewInt(api.MaxInt)) > 0 {
		wantInt(t, name, got, e, 0, api.ErrRange, x)
		return
	}
	wantInt(t, name, got, e, int(want.Int64()), api.OK, x)
}

// integerReals are reals near integers, near halves, and near the greatest integer.
func integerReals(t *testing.T) []api.Real {
	l := append(edgeReals(), mixedReals(12, 1000)...)
	for n := -9; n <= 9; n++ {
		for exp := -4; exp < 0; exp++ {
			x := exactly(t, n, exp)
			l = append(l, x, must(real.Next(x)), negated(must(real.Next(negated(x)))))
		}
	}
	for exp := -26; exp <= 10; exp++ {
		for _, man := range []int{low, low + 1, low + 2, low + 3, high - 2, high - 1, high} {
			l = append(l, api.Real{Man: man, Exp: exp}, api.Real{Man: -man, Exp: exp})
		}
	}
	for exp := 0; exp <= api.MaxExp; exp++ {
		l = append(l, api.Real{Man: low, Exp: exp}, api.Real{Man: -high, Exp: exp})
	}
	return l
}

// P2.7.
func TestIntegersOfReals(t *testing.T) {
	for _, x := range integerReals(t) {
		n, e := real.Entier(x)
		wantInteger(t, "Entier", n, e, down(exactOf(x)), x)
		n, e = real.Round(x)
		wantInteger(t, "Round", n, e, down(new(big.Rat).Add(exactOf(x), big.NewRat(1, 2))), x)
	}
}

// P2.7: the examples, and the greatest integer.
func TestIntegerExamples(t *testing.T) {
	for _, x := range []struct {
		man, exp      int
		entier, round int
		e             api.Errno
	}{
		{-3, -1, -2, -1, api.OK}, {-5, -1, -3, -2, api.OK}, {5, -1, 2, 3, api.OK}, {1, -1, 0, 1, api.OK}, {-1, -1, -1, 0, api.OK}, {high, -25, 0, 0, api.OK}, {-low - 1, -24, -1, -1, api.OK},
		{1, -150, 0, 0, api.OK}, {-1, -150, -1, 0, api.OK}, {high, 7, high << 7, high << 7, api.OK}, {-high, 7, -high << 7, -high << 7, api.OK},
		{low, 8, 0, 0, api.ErrRange}, {-low, 8, 0, 0, api.ErrRange}, {low, 9, 0, 0, api.ErrRange}, {high, 150, 0, 0, api.ErrRange}, {-high, 150, 0, 0, api.ErrRange},
		{low, 41, 0, 0, api.ErrRange}, {-low, 42, 0, 0, api.ErrRange}, {low, 10, 0, 0, api.ErrRange}, {1 << 22, 63 - 22, 0, 0, api.ErrRange}, {1 << 22, 64 - 22, 0, 0, api.ErrRange},
	} {
		y := exactly(t, x.man, x.exp)
		n, e := real.Entier(y)
		wantInt(t, "Entier", n, e, x.entier, x.e, strconv.Itoa(x.man), x.exp)
		n, e = real.Round(y)
		wantInt(t, "Round", n, e, x.round, x.e, strconv.Itoa(x.man), x.exp)
	}
}
