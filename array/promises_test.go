package array_test

import (
	"reflect"
	"slices"
	"testing"

	"manorboy/api"
	"manorboy/array"
	"manorboy/value"
)

// someDims are proper dimensions: those at all limits, and others by chance.
func someDims(seed int64) [][]api.Dim {
	m := newMaker(seed)
	var l [][]api.Dim
	for _, text := range proper() {
		l = append(l, dims(text))
	}
	for range 300 {
		l = append(l, m.dims(m.from(1, 4), 7))
	}
	return l
}

// TestOrder checks P8.10.
func TestOrder(t *testing.T) {
	m := newMaker(20)
	for _, d := range someDims(21) {
		size := must(array.Size(d))
		least, greatest := make([]int, len(d)), make([]int, len(d))
		for i, x := range d {
			least[i], greatest[i] = x.Lo, x.Hi
		}
		if must(array.Offset(d, least)) != 0 || must(array.Offset(d, greatest)) != size-1 {
			t.Errorf("%v: the least list, or the greatest one, has another offset", d)
		}
		for k := range size {
			if must(array.Offset(d, must(array.Subscripts(d, k)))) != k {
				t.Errorf("%v: the subscripts with the offset %d have another one", d, k)
			}
		}
		for range 20 {
			a, b := inside(m, d), inside(m, d)
			j, k := must(array.Offset(d, a)), must(array.Offset(d, b))
			if slices.Compare(a, b) < 0 != (j < k) || slices.Equal(a, b) != (j == k) {
				t.Errorf("%v: the offsets of %v and %v are %d and %d", d, a, b, j, k)
			}
			if !slices.Equal(must(array.Subscripts(d, j)), a) {
				t.Errorf("%v: the offset of %v is that of other subscripts", d, a)
			}
		}
	}
}

// inside returns a subscript list that is in bounds.
func inside(m maker, d []api.Dim) []int {
	list := make([]int, len(d))
	for i, x := range d {
		list[i] = m.from(x.Lo, x.Hi)
	}
	return list
}

// TestReadOverWrite checks P8.11: Get behind Set.
func TestReadOverWrite(t *testing.T) {
	m := newMaker(22)
	for _, a := range someArrays(23) {
		for range 5 {
			at, v := inside(m, a.Dims), m.value(one(m, types()))
			converted, e := value.Convert(a.Type, v)
			if e != api.OK {
				continue
			}
			changed := must(array.Set(a, at, v))
			if got := must(array.Get(changed, at)); got != converted {
				t.Errorf("%v is there behind Set to %v", got, v)
			}
			for _, other := range listsOf(a.Dims) {
				if !slices.Equal(other, at) && must(array.Get(changed, other)) != must(array.Get(a, other)) {
					t.Errorf("Set at %v changes the element at %v", at, other)
				}
			}
		}
	}
}

// TestTwoSets checks P8.11: two Sets at different subscript lists, and at the same one.
func TestTwoSets(t *testing.T) {
	m := newMaker(24)
	other := 0
	for _, a := range someArrays(25) {
		for range 10 {
			i, j, v, w := inside(m, a.Dims), inside(m, a.Dims), m.value(a.Type), m.value(a.Type)
			one := must(array.Set(must(array.Set(a, i, v)), j, w))
			two := must(array.Set(must(array.Set(a, j, w)), i, v))
			if !slices.Equal(i, j) {
				other++
				if !array.Same(one, two) {
					t.Errorf("Sets at %v and %v do not commute", i, j)
				}
			}
			later := must(array.Set(must(array.Set(a, i, v)), i, w))
			if !array.Same(later, must(array.Set(a, i, w))) {
				t.Errorf("of two Sets at %v the later one does not count", i)
			}
		}
	}
	if other < 500 {
		t.Errorf("only %d pairs", other)
	}
}

// TestOwnArrays checks P8.12: sequences of Resizes, of which each element is known.
func TestOwnArrays(t *testing.T) {
	m := newMaker(26)
	for range 300 {
		kind, count := one(m, types()), m.from(1, 4)
		first := m.array(kind, m.dims(count, 5))
		a, kept := first, elementsOf(first)
		for range 6 {
			if same := must(array.Resize(a, a.Dims)); !array.Same(same, a) {
				t.Errorf("Resize to the same dimensions changes %v to %v", a, same)
			}
			d := one(m, [][]api.Dim{m.near(a.Dims), m.near(a.Dims), m.dims(count, 5)})
			a = must(array.Resize(a, d))
			// What is not in bounds is lost for good.
			left := map[string]api.Value{}
			for _, list := range listsOf(d) {
				if v, found := kept[nameOf(list)]; found {
					left[nameOf(list)] = v
				}
			}
			kept = left
			if !array.Same(a, arrayOf(kind, d, kept)) {
				t.Errorf("%v is there of %v", a, first)
			}
		}
	}
}

// TestLeftOnce checks P8.12: an element that leaves the bounds once, in one dimension only, is 0 from then on.
func TestLeftOnce(t *testing.T) {
	a := arr("1:2 1:2", "1 2 3 4")
	for _, c := range []struct{ middle, want string }{
		{"1:2 1:2", "1 2 3 4"}, {"0:5 -3:2", "1 2 3 4"}, {"1:1 1:2", "1 2 0 0"}, {"2:2 1:2", "0 0 3 4"}, {"1:2 1:1", "1 0 3 0"}, {"1:2 2:2", "0 2 0 4"}, {"2:9 2:9", "0 0 0 4"}, {"3:3 1:2", "0 0 0 0"}, {"1:2 0:0", "0 0 0 0"}, {"M:M -M:-M", "0 0 0 0"},
	} {
		back, e := array.Resize(must(array.Resize(a, dims(c.middle))), a.Dims)
		wantOutcome(t, "Resize to "+c.middle+" and back", back, e, arr("1:2 1:2", c.want), api.OK)
	}
	if v := must(array.Resize(arr("1:2", "true true"), dims("2:3"))); !array.Same(v, arr("2:3", "true false")) {
		t.Errorf("truth values become %v", v)
	}
}

// TestTwoResizes checks P8.12: if the dimensions in the middle contain the last ones, two Resizes are one.
func TestTwoResizes(t *testing.T) {
	m := newMaker(27)
	for range 1000 {
		a := m.array(one(m, types()), m.dims(m.from(1, 4), 5))
		middle := m.near(a.Dims)
		last := make([]api.Dim, len(middle))
		for i, x := range middle {
			lo := m.from(x.Lo, x.Hi)
			last[i] = api.Dim{Lo: lo, Hi: m.from(lo, x.Hi)}
		}
		two := must(array.Resize(must(array.Resize(a, middle)), last))
		if !array.Same(two, must(array.Resize(a, last))) {
			t.Errorf("from %v by %v to %v: two Resizes are not one", a.Dims, middle, last)
		}
	}
}

// TestLinear checks P8.13 for all subscript lists and places.
func TestLinear(t *testing.T) {
	steps := 0
	for _, d := range someDims(28) {
		strides, _, _ := array.Strides(d)
		for _, list := range listsOf(d) {
			for i, stride := range strides {
				next := slices.Clone(list)
				next[i]++
				if !isInside(d, next) {
					continue
				}
				steps++
				if must(array.Offset(d, next)) != must(array.Offset(d, list))+stride {
					t.Errorf("%v: from %v to %v is another step than %d", d, list, next, stride)
				}
			}
		}
	}
	if steps < 10000 {
		t.Errorf("only %d steps", steps)
	}
}

// TestConversions checks P8.14: to the same type, and together with Resize.
func TestConversions(t *testing.T) {
	m := newMaker(29)
	both := 0
	for _, a := range someArrays(30) {
		if !reflect.DeepEqual(must(array.Convert(a, a.Type)), a) {
			t.Errorf("Convert of %v to its type is another one", a)
		}
		for _, kind := range types() {
			converted, e := array.Convert(a, kind)
			if e != api.OK {
				continue
			}
			d := m.near(a.Dims)
			one, two := must(array.Resize(converted, d)), must(array.Convert(must(array.Resize(a, d)), kind))
			both++
			if !array.Same(one, two) {
				t.Errorf("Convert to %d and Resize to %v do not commute: %v, %v", kind, d, one, two)
			}
		}
	}
	if both < 200 {
		t.Errorf("only %d conversions", both)
	}
}

// TestConvertBehindResize checks P8.14: an element that cannot be converted, and is out of the new bounds, is no error any more.
func TestConvertBehindResize(t *testing.T) {
	a := arr("1:3", "1.0e30 1.5 2.5")
	got, e := array.Convert(must(array.Resize(a, dims("2:4"))), api.TyInt)
	wantOutcome(t, "Convert", got, e, arr("2:4", "2 3 0"), api.OK)
}

// TestThereAndBack checks P8.14: integers up to 2^24 come back from reals.
func TestThereAndBack(t *testing.T) {
	m := newMaker(31)
	a := arr("1:10", "0 1 -1 16777215 16777216 -16777215 -16777216 8388609 -8388607 7")
	for range 90 {
		a.Elems = append(a.Elems, whole(m.from(-1<<24, 1<<24)))
	}
	a.Dims = dims("1:100")
	reals := must(array.Convert(a, api.TyReal))
	if reals.Type != api.TyReal || array.Same(reals, a) {
		t.Errorf("the reals are %v", reals)
	}
	if back := must(array.Convert(reals, api.TyInt)); !array.Same(back, a) {
		t.Errorf("%v is back for %v", back, a)
	}
}

// TestResultsAreValid checks that all arrays and dimensions that are returned are valid.
func TestResultsAreValid(t *testing.T) {
	m := newMaker(32)
	for _, a := range someArrays(33) {
		d := m.near(a.Dims)
		l := []api.Array{must(array.New(a.Type, d)), must(array.Resize(a, d)), must(array.Set(a, inside(m, a.Dims), m.value(a.Type)))}
		for _, kind := range types() {
			if converted, e := array.Convert(a, kind); e == api.OK {
				l = append(l, converted)
			}
		}
		for _, result := range l {
			if array.Check(result) != api.OK || !isArray(result) {
				t.Errorf("%v is a result", result)
			}
		}
		if common, e := array.Common(a.Dims, d); e == api.OK && dimsError(common) != api.OK {
			t.Errorf("%v are common dimensions", common)
		}
	}
}
