package array_test

import (
	"testing"

	"manorboy/api"
	"manorboy/array"
)

// badDims is a list with its error, ahead of which nothing comes.
type badDims struct {
	dims []api.Dim
	want api.Errno
}

func allBadDims() []badDims {
	var l []badDims
	for _, d := range noDims() {
		l = append(l, badDims{d, api.ErrArg})
	}
	for _, text := range improper() {
		l = append(l, badDims{dims(text), api.ErrRange})
	}
	return l
}

// TestBadDims checks that dimensions that are none, or are not proper, are the first error of each function with dimensions: the section Functions.
func TestBadDims(t *testing.T) {
	for _, bad := range allBadDims() {
		if got := dimsError(bad.dims); got != bad.want {
			t.Fatalf("%v have the error %d", bad.dims, got)
		}
		for _, list := range [][]int{nil, {1}, {0, 0}, make([]int, len(bad.dims)), make([]int, 7)} {
			offset, e := array.Offset(bad.dims, list)
			wantNothing(t, "Offset", offset, e, bad.want)
		}
		for _, offset := range []int{-1, 0, 1, 1000} {
			list, e := array.Subscripts(bad.dims, offset)
			wantNothing(t, "Subscripts", list, e, bad.want)
		}
		strides, origin, e := array.Strides(bad.dims)
		wantNothing(t, "Strides", strides, e, bad.want)
		wantNothing(t, "the number o", origin, e, bad.want)
		for _, kind := range types() {
			a, e := array.New(kind, bad.dims)
			wantNothing(t, "New", a, e, bad.want)
		}
		for _, a := range []api.Array{arr("1:3", "7 8 9"), arr("1:2 0:2", "1 2 3 4 5 6"), arr("0:0 0:0 0:0 0:0", "true")} {
			got, e := array.Resize(a, bad.dims)
			wantNothing(t, "Resize", got, e, bad.want)
		}
	}
}

// TestBadDimsOfCommon checks P8.4: all errors of the first list come ahead of those of the second one.
func TestBadDimsOfCommon(t *testing.T) {
	for _, bad := range allBadDims() {
		for _, text := range proper() {
			got, e := array.Common(bad.dims, dims(text))
			wantNothing(t, "Common", got, e, bad.want)
			got, e = array.Common(dims(text), bad.dims)
			wantNothing(t, "Common", got, e, bad.want)
		}
		for _, other := range allBadDims() {
			got, e := array.Common(bad.dims, other.dims)
			wantNothing(t, "Common", got, e, bad.want)
		}
	}
}

// TestErrorsOfCommon checks P8.4: another number of dimensions comes ahead of no common subscript list.
func TestErrorsOfCommon(t *testing.T) {
	for _, c := range []struct {
		a, b string
		want api.Errno
	}{
		{"1:2", "1:2 0:0", api.ErrKind}, {"1:2 0:0", "1:2", api.ErrKind}, {"1:2", "3:4 0:0", api.ErrKind}, {"1:2 1:2 1:2 1:2", "1:2 1:2 1:2", api.ErrKind}, {"0:0", "1:1 1:1", api.ErrKind},
		{"1:2", "3:4", api.ErrNone}, {"3:4", "1:2", api.ErrNone}, {"1:2", "4:5", api.ErrNone}, {"-M:-M", "M:M", api.ErrNone}, {"1:2 1:2", "2:3 3:3", api.ErrNone}, {"1:2 1:2", "3:5 4:6", api.ErrNone}, {"1:2 1:2", "0:0 0:0", api.ErrNone}, {"1:2 1:3 1:2 1:2", "1:2 1:3 1:2 3:3", api.ErrNone},
	} {
		got, e := array.Common(dims(c.a), dims(c.b))
		wantNothing(t, "Common of "+c.a+" and "+c.b, got, e, c.want)
	}
}

// TestBadType checks P8.5: a type that is none is an error of New ahead of all others.
func TestBadType(t *testing.T) {
	for _, kind := range noTypes() {
		for _, text := range append(proper(), improper()...) {
			a, e := array.New(kind, dims(text))
			wantNothing(t, "New", a, e, api.ErrArg)
		}
	}
}

// TestBadArray checks that an array that is not valid is the first error of each function with an array: the section Functions.
func TestBadArray(t *testing.T) {
	for _, a := range noArrays() {
		for _, list := range [][]int{nil, {1}, {99}, {1, 0}, {1, 99}} {
			v, e := array.Get(a, list)
			wantNothing(t, "Get", v, e, api.ErrArg)
			for _, v := range []api.Value{val("1"), val("1.0e30"), val("true"), {}} {
				got, e := array.Set(a, list, v)
				wantNothing(t, "Set", got, e, api.ErrArg)
			}
		}
		for _, d := range [][]api.Dim{nil, dims("1:2"), dims("5:4"), dims("1:2 1:2"), dims("1:1001"), a.Dims} {
			got, e := array.Resize(a, d)
			wantNothing(t, "Resize", got, e, api.ErrArg)
		}
		for _, kind := range append(types(), noTypes()...) {
			got, e := array.Convert(a, kind)
			wantNothing(t, "Convert", got, e, api.ErrArg)
		}
	}
}

// TestErrorsOfSet checks P8.6: the number of subscripts, their bounds, what is no value, and its conversion are errors in this order.
func TestErrorsOfSet(t *testing.T) {
	integers := arr("1:2 0:2", "1 2 3 4 5 6")
	for _, v := range append(noValues(), val("1"), val("1.0e30"), val("true")) {
		for _, c := range []struct {
			list string
			want api.Errno
		}{{"", api.ErrKind}, {"1", api.ErrKind}, {"3", api.ErrKind}, {"1 0 0", api.ErrKind}, {"3 0 0", api.ErrKind}, {"1 0 0 0 0", api.ErrKind}, {"3 0", api.ErrRange}, {"0 0", api.ErrRange}, {"1 3", api.ErrRange}, {"1 -1", api.ErrRange}, {"0 4", api.ErrRange}, {"-M M", api.ErrRange}} {
			got, e := array.Set(integers, subs(c.list), v)
			wantNothing(t, "Set", got, e, c.want)
			elem, e := array.Get(integers, subs(c.list))
			wantNothing(t, "Get", elem, e, c.want)
		}
	}
	for _, v := range noValues() {
		for _, a := range []api.Array{integers, arr("1:2 0:0", "0.5 1.5"), arr("1:1 0:1", "true false")} {
			got, e := array.Set(a, subs("1 0"), v)
			wantNothing(t, "Set", got, e, api.ErrArg)
		}
	}
}

// TestErrorsOfResize checks P8.7: another number of dimensions.
func TestErrorsOfResize(t *testing.T) {
	for _, c := range []struct{ bounds, elems, to string }{
		{"1:2", "1 2", "1:2 0:0"}, {"1:2", "1 2", "0:0 1:2"}, {"1:2 0:0", "1 2", "1:2"}, {"1:1 1:2", "true false", "1:2"}, {"1:2 0:0 0:0", "1.5 2.5", "1:2 0:0 0:0 0:0"}, {"0:0 0:0 0:0 0:0", "1", "0:0"}, {"1:2", "1 2", "5:6 7:8"},
	} {
		got, e := array.Resize(arr(c.bounds, c.elems), dims(c.to))
		wantNothing(t, "Resize to "+c.to, got, e, api.ErrKind)
	}
}
