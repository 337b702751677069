package integer_test

import (
	"math"
	"math/big"
	"slices"
	"testing"

	"manorboy/api"
)

const most = api.MaxInt

// edgeInts are valid integers where an operation can go wrong: small ones, powers of two and their neighbours, the roots and the parts of the greatest integer, and the greatest ones.
func edgeInts() []int {
	var l []int
	both := func(n int) {
		if n >= 0 && n <= most {
			l = append(l, n, -n)
		}
	}
	for n := range 13 {
		both(n)
		both(most - n/2)
	}
	for bit := 4; bit <= 31; bit++ {
		for d := -1; d <= 1; d++ {
			both(1<<bit + d)
		}
	}
	for _, n := range []int{46339, 46340, 46341, 46342, 1289, 1290, 1291, most / 3, most/3 + 1, most / 10, most/10 + 1, 1000000000, 1999999999} {
		both(n)
	}
	slices.Sort(l)
	return slices.Compact(l)
}

// fewInts are some of edgeInts, for laws about three integers.
func fewInts() []int {
	l := []int{0}
	for _, n := range []int{1, 2, 3, 7, 10, 255, 46340, 46341, 65536, most / 2, most/2 + 1, most - 2, most - 1, most} {
		l = append(l, n, -n)
	}
	slices.Sort(l)
	return l
}

// badInts are integers that are not valid.
func badInts() []int {
	return []int{
		most + 1, -most - 1, most + 2, -most - 2, 1<<32 - 1, 1 << 32, 1<<32 + 1, -1 << 32, 1<<33 + 5, -1<<40 + 1, 1 << 40,
		1 << 62, -1 << 62, math.MaxInt, math.MaxInt - 1, math.MinInt, math.MinInt + 1,
	}
}

func bigOf(n int) *big.Int { return big.NewInt(int64(n)) }

// fitted is what an operation has to return whose exact result is n.
func fitted(n *big.Int) (int, api.Errno) {
	if n.CmpAbs(bigOf(most)) > 0 {
		return 0, api.ErrRange
	}
	return int(n.Int64()), api.OK
}

type one func(a int) (int, api.Errno)

type two func(a, b int) (int, api.Errno)

func wantOne(t *testing.T, name string, f one, a, want int, wantErr api.Errno) {
	t.Helper()
	if n, e := f(a); n != want || e != wantErr {
		t.Errorf("%s(%d) = %d, %d; want %d, %d", name, a, n, e, want, wantErr)
	}
}

func wantTwo(t *testing.T, name string, f two, a, b, want int, wantErr api.Errno) {
	t.Helper()
	if n, e := f(a, b); n != want || e != wantErr {
		t.Errorf("%s(%d, %d) = %d, %d; want %d, %d", name, a, b, n, e, want, wantErr)
	}
}

// must returns the result of a call that has to succeed.
func must(t *testing.T, name string) func(n int, e api.Errno) int {
	return func(n int, e api.Errno) int {
		t.Helper()
		if e != api.OK {
			t.Errorf("%s: error %d", name, e)
		}
		return n
	}
}
