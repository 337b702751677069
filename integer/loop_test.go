package integer_test

import (
	"math/big"
	"testing"

	"manorboy/api"
	"manorboy/integer"
)

// P1.1, I11: the examples of the chapter, and loops at the ends of the range.
func TestTrips(t *testing.T) {
	for _, x := range []struct {
		first, step, last, n int
		over                 bool
	}{
		{1, 2, 6, 3, false}, {3, -1, 3, 1, false}, {2, 1, 1, 0, false}, {2147483640, 5, 2147483647, 2, true},
		{1, 2, 5, 3, false}, {1, 2, 7, 4, false}, {2, -1, 3, 0, false}, {10, -3, 1, 4, false}, {10, -3, 2, 3, false},
		{5, 1, 5, 1, false}, {-3, 1, 3, 7, false}, {3, -1, -3, 7, false}, {0, most, 0, 1, false}, {0, -most, 0, 1, false},
		{most, 1, most, 1, true}, {most - 1, 1, most - 1, 1, false}, {-most, -1, -most, 1, true}, {1 - most, -1, 1 - most, 1, false},
		{most, 1, most - 1, 0, false}, {-most, -1, 1 - most, 0, false}, {most, -1, -most, 2*most + 1, true}, {-most, 1, most, 2*most + 1, true},
		{-most, 1, most - 1, 2 * most, false}, {-most, most, most, 3, true}, {-most, most, most - 1, 2, false}, {1 - most, most, most, 2, true},
		{most, -most, -most, 3, true}, {-2147483640, -5, -most, 2, true}, {-most, 1, -most, 1, false}, {-most, 2, most, most + 1, true},
	} {
		wantTrips(t, x.first, x.step, x.last, x.n, x.over, api.OK)
	}
}

// P1.1, I11: all small loops, by going through them, and edge integers, by dividing.
func TestTripsOfManyLoops(t *testing.T) {
	for first := -9; first <= 9; first++ {
		for last := -9; last <= 9; last++ {
			for step := -5; step <= 5; step++ {
				if step != 0 {
					wantTrips(t, first, step, last, walk(first, step, last), false, api.OK)
				}
			}
		}
	}
	for _, first := range fewInts() {
		for _, last := range fewInts() {
			for _, step := range edgeInts() {
				if step != 0 {
					n, over := divided(first, step, last)
					wantTrips(t, first, step, last, n, over, api.OK)
				}
			}
		}
	}
}

// walk counts the terms of a loop one by one.
func walk(first, step, last int) int {
	n := 0
	for term := first; step > 0 && term <= last || step < 0 && term >= last; term += step {
		n++
	}
	return n
}

// divided counts the terms of a loop as one more than the whole steps from first to last, rounded down.
func divided(first, step, last int) (n int, over bool) {
	way := new(big.Int).Sub(bigOf(last), bigOf(first))
	width := bigOf(step)
	if step < 0 {
		way.Neg(way)
		width.Neg(width)
	}
	n = max(0, int(new(big.Int).Div(way, width).Int64())+1)
	behind := new(big.Int).Mul(bigOf(n), bigOf(step))
	return n, behind.Add(behind, bigOf(first)).CmpAbs(bigOf(most)) > 0
}

// P1.1, Errors and I11: an integer that is not valid comes before a step of 0.
func TestTripsErrors(t *testing.T) {
	for _, n := range fewInts() {
		wantTrips(t, n, 0, 9, 0, false, api.ErrNone)
		wantTrips(t, 9, 0, n, 0, false, api.ErrNone)
		for _, bad := range badInts() {
			wantTrips(t, bad, n, 1, 0, false, api.ErrArg)
			wantTrips(t, 1, n, bad, 0, false, api.ErrArg)
			wantTrips(t, 1, bad, n, 0, false, api.ErrArg)
			wantTrips(t, n, bad, 1, 0, false, api.ErrArg)
			wantTrips(t, bad, 0, bad, 0, false, api.ErrArg)
		}
	}
}

func wantTrips(t *testing.T, first, step, last, wantN int, wantOver bool, wantErr api.Errno) {
	t.Helper()
	if n, over, e := integer.Trips(first, step, last); n != wantN || over != wantOver || e != wantErr {
		t.Errorf("Trips(%d, %d, %d) = %d, %v, %d; want %d, %v, %d", first, step, last, n, over, e, wantN, wantOver, wantErr)
	}
}
