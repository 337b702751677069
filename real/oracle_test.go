package real_test

import (
	"math"
	"math/big"
	"math/rand"
	"testing"

	"manorboy/api"
	"manorboy/real"
)

// The ends of the mantissas: the least and the greatest one with all bits.
const (
	low  = 1 << 23
	high = 1<<24 - 1
)

var (
	zero     = api.Real{}
	one      = api.Real{Man: low, Exp: -23}
	least    = api.Real{Man: 1, Exp: api.MinExp}
	greatest = api.Real{Man: high, Exp: api.MaxExp}
)

type unary func(x api.Real) (api.Real, api.Errno)

type binary func(x, y api.Real) (api.Real, api.Errno)

// exactly returns the real man * 2^exp, by shifting only.
func exactly(t *testing.T, man, exp int) api.Real {
	t.Helper()
	for man != 0 && max(man, -man) < low && exp > api.MinExp {
		man *= 2
		exp--
	}
	for max(man, -man) > high || man != 0 && exp < api.MinExp {
		if man%2 != 0 {
			t.Fatalf("no real is %d * 2^%d", man, exp)
		}
		man /= 2
		exp++
	}
	if man == 0 {
		exp = 0
	}
	return api.Real{Man: man, Exp: exp}
}

// edgeReals are reals where an operation can go wrong: 0, the ends of exponents that matter (the least and the greatest ones, those of 1 and of the greatest integer, those with halves), and numbers of a few bits.
func edgeReals() []api.Real {
	l := []api.Real{zero}
	both := func(man, exp int) {
		l = append(l, api.Real{Man: man, Exp: exp}, api.Real{Man: -man, Exp: exp})
	}
	for _, exp := range []int{-150, -149, -148, -127, -126, -125, -100, -76, -75, -74, -48, -25, -24, -23, -22, -15, -1, 0, 1, 7, 8, 9, 38, 39, 75, 100, 126, 127, 149, 150} {
		for _, man := range []int{low, low + 1, low + 2, low * 5 / 4, low * 3 / 2, 11863283, 11863284, high - 1, high} {
			both(man, exp)
		}
	}
	for _, man := range []int{1, 2, 3, 4, 5, 7, 8, 9, 10, 100, low/2 - 1, low / 2, low/2 + 1, low - 2, low - 1} {
		both(man, api.MinExp)
	}
	return l
}

// fewReals are some of edgeReals, for laws about pairs and triples.
func fewReals() []api.Real {
	l := []api.Real{zero}
	for i, x := range edgeReals() {
		if i%11 == 0 || x.Exp == -23 && i%3 == 0 {
			l = append(l, x, api.Real{Man: -x.Man, Exp: x.Exp})
		}
	}
	return append(l, least, greatest, one)
}

// mixedReals are n reals from a fixed seed: any, some near 1, some with few bits (so that sums and products are ties often), and some among the least and the greatest ones.
func mixedReals(seed int64, n int) []api.Real {
	r := rand.New(rand.NewSource(seed))
	var l []api.Real
	for i := range n {
		man, exp := low+r.Intn(low), r.Intn(301)-150
		switch i % 5 {
		case 1:
			exp = r.Intn(30) - 38
		case 2:
			man = (low>>10 + r.Intn(low>>10)) << 10
			exp = r.Intn(40) - 43
		case 3:
			man, exp = 1+r.Intn(high), api.MinExp
		case 4:
			exp = 140 + r.Intn(11)
		}
		if r.Intn(2) == 0 {
			man = -man
		}
		l = append(l, api.Real{Man: man, Exp: exp})
	}
	return l
}

// badReals are not normal.
func badReals() []api.Real {
	return []api.Real{
		{Man: 0, Exp: 1}, {Man: 0, Exp: -1}, {Man: 0, Exp: api.MinExp}, {Man: 0, Exp: api.MaxExp}, {Man: 0, Exp: math.MinInt},
		{Man: 1, Exp: 0}, {Man: -1, Exp: 0}, {Man: low - 1, Exp: api.MinExp + 1}, {Man: 1 - low, Exp: api.MinExp + 1}, {Man: low - 1, Exp: api.MaxExp},
		{Man: 1, Exp: api.MinExp - 1}, {Man: low, Exp: api.MinExp - 1}, {Man: -high, Exp: api.MinExp - 1}, {Man: low, Exp: math.MinInt},
		{Man: low, Exp: api.MaxExp + 1}, {Man: -low, Exp: api.MaxExp + 1}, {Man: high, Exp: math.MaxInt},
		{Man: high + 1, Exp: 0}, {Man: -high - 1, Exp: 0}, {Man: high + 1, Exp: api.MinExp}, {Man: high + 2, Exp: -23}, {Man: 1 << 32, Exp: 0},
		{Man: 1<<32 + low, Exp: 0}, {Man: math.MaxInt, Exp: 0}, {Man: math.MinInt, Exp: 0}, {Man: math.MinInt, Exp: api.MinExp}, {Man: math.MinInt + 1, Exp: api.MinExp},
	}
}

// scaled returns q * 2^n.
func scaled(q *big.Rat, n int) *big.Rat {
	power := new(big.Rat).SetInt(new(big.Int).Lsh(big.NewInt(1), uint(max(n, -n))))
	if n < 0 {
		power.Inv(power)
	}
	return power.Mul(power, q)
}

// exactOf is the number that a real is.
func exactOf(x api.Real) *big.Rat {
	return scaled(big.NewRat(int64(x.Man), 1), x.Exp)
}

// down is the greatest integer that is at most q.
func down(q *big.Rat) *big.Int {
	return new(big.Int).Div(q.Num(), q.Denom()) // Denom is above 0, for which Div rounds down
}

// nearest is the rounded value of q, straight from its definition.
func nearest(q *big.Rat) (api.Real, api.Errno) {
	magnitude := new(big.Rat).Abs(q)
	exp := max(api.MinExp, magnitude.Num().BitLen()-magnitude.Denom().BitLen()-26)
	for down(scaled(magnitude, -exp)).Cmp(big.NewInt(high)) > 0 {
		exp++
	}
	places := scaled(magnitude, -exp)
	man := down(places)
	rest := places.Sub(places, new(big.Rat).SetInt(man))
	if order := rest.Cmp(big.NewRat(1, 2)); order > 0 || order == 0 && man.Bit(0) == 1 {
		man.Add(man, big.NewInt(1))
	}
	x := api.Real{Man: int(man.Int64()), Exp: exp}
	if x.Man > high {
		x = api.Real{Man: low, Exp: exp + 1}
	}
	if x.Exp > api.MaxExp {
		return zero, api.ErrRange
	}
	if x.Man == 0 {
		return zero, api.OK
	}
	x.Man *= q.Sign()
	return x, api.OK
}

// isTie reports whether q is in the middle between two reals.
func isTie(q *big.Rat) bool {
	x, e := nearest(q)
	if e != api.OK {
		return false
	}
	next := exactOf(must(real.Next(x)))
	middle := next.Quo(next.Add(next, exactOf(x)), big.NewRat(2, 1))
	before := exactOf(negated(must(real.Next(negated(x)))))
	other := before.Quo(before.Add(before, exactOf(x)), big.NewRat(2, 1))
	return q.Cmp(middle) == 0 || q.Cmp(other) == 0
}

func negated(x api.Real) api.Real { return api.Real{Man: -x.Man, Exp: x.Exp} }

// must returns a result that has no error.
func must[T any](x T, e api.Errno) T {
	if e != api.OK {
		panic(e)
	}
	return x
}

func wantReal(t *testing.T, name string, got api.Real, e api.Errno, want api.Real, wantErr api.Errno, arguments ...any) {
	t.Helper()
	if got != want || e != wantErr {
		t.Errorf("%s%v = %v, %d; want %v, %d", name, arguments, got, e, want, wantErr)
	}
}

func wantInt(t *testing.T, name string, got int, e api.Errno, want int, wantErr api.Errno, arguments ...any) {
	t.Helper()
	if got != want || e != wantErr {
		t.Errorf("%s%v = %d, %d; want %d, %d", name, arguments, got, e, want, wantErr)
	}
}
