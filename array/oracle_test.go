package array_test

import (
	"math/big"
	"slices"
	"strconv"
	"strings"

	"manorboy/api"
	"manorboy/value"
)

// This file is a second reading of the chapter: subscript lists are collected and sorted, and arrays are maps from subscript lists to values.

// sizeOf returns the product of all Hi - Lo + 1.
func sizeOf(d []api.Dim) *big.Int {
	size := big.NewInt(1)
	for _, x := range d {
		size.Mul(size, big.NewInt(int64(x.Hi)-int64(x.Lo)+1))
	}
	return size
}

// dimsError returns the error of a list of dimensions.
func dimsError(d []api.Dim) api.Errno {
	if len(d) == 0 || len(d) > 4 {
		return api.ErrArg
	}
	for _, n := range numbersOf(d) {
		if n > 2147483647 || n < -2147483647 {
			return api.ErrArg
		}
	}
	for _, x := range d {
		if x.Lo > x.Hi {
			return api.ErrRange
		}
	}
	if sizeOf(d).Cmp(big.NewInt(1000)) > 0 {
		return api.ErrRange
	}
	return api.OK
}

func numbersOf(d []api.Dim) []int {
	var l []int
	for _, x := range d {
		l = append(l, x.Lo, x.Hi)
	}
	return l
}

// isInside reports whether a subscript list has one element for each dimension, and is in bounds.
func isInside(d []api.Dim, list []int) bool {
	if len(d) != len(list) {
		return false
	}
	for i, n := range list {
		if n < d[i].Lo || n > d[i].Hi {
			return false
		}
	}
	return true
}

// listsOf returns all subscript lists that are in bounds of proper dimensions, in lexicographic order.
func listsOf(d []api.Dim) [][]int {
	lists := [][]int{nil}
	for i := len(d) - 1; i >= 0; i-- {
		var longer [][]int
		for n := d[i].Hi; n >= d[i].Lo; n-- {
			for _, list := range lists {
				longer = append(longer, append([]int{n}, list...))
			}
		}
		lists = longer
	}
	slices.SortFunc(lists, slices.Compare[[]int])
	return lists
}

// nameOf returns a subscript list as the key of a map.
func nameOf(list []int) string {
	var words []string
	for _, n := range list {
		words = append(words, strconv.Itoa(n))
	}
	return strings.Join(words, " ")
}

// elementsOf returns the elements of an array by their subscript lists.
func elementsOf(a api.Array) map[string]api.Value {
	elements := map[string]api.Value{}
	for k, list := range listsOf(a.Dims) {
		elements[nameOf(list)] = a.Elems[k]
	}
	return elements
}

// arrayOf returns the array with elements; those that are missing are the zero of the type.
func arrayOf(kind int, d []api.Dim, elements map[string]api.Value) api.Array {
	a := api.Array{Type: kind, Dims: slices.Clone(d)}
	for _, list := range listsOf(d) {
		v, found := elements[nameOf(list)]
		if !found {
			v = must(value.Zero(kind))
		}
		a.Elems = append(a.Elems, v)
	}
	return a
}

// wantResized returns what Resize has to return for a valid array and proper dimensions of the same number.
func wantResized(a api.Array, d []api.Dim) api.Array {
	return arrayOf(a.Type, d, elementsOf(a))
}

// wantConverted returns what Convert has to return for a valid array and a type.
func wantConverted(a api.Array, kind int) (api.Array, api.Errno) {
	result := api.Array{Type: kind, Dims: slices.Clone(a.Dims)}
	for _, v := range a.Elems {
		w, e := value.Convert(kind, v)
		if e != api.OK {
			return api.Array{}, e
		}
		result.Elems = append(result.Elems, w)
	}
	return result, api.OK
}

// isArray reports whether an array is valid.
func isArray(a api.Array) bool {
	if a.Type < 1 || a.Type > 3 || dimsError(a.Dims) != api.OK || big.NewInt(int64(len(a.Elems))).Cmp(sizeOf(a.Dims)) != 0 {
		return false
	}
	for _, v := range a.Elems {
		if v.Kind != a.Type || !value.Valid(v) {
			return false
		}
	}
	return true
}
