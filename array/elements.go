package array

import (
	"manorboy/api"
	"manorboy/value"
)

// shapeOfArray returns the shape of a valid array, ErrArg for others.
func shapeOfArray(a api.Array) (shape, api.Errno) {
	s, e := shapeOf(a.Dims)
	if e != api.OK || len(a.Elems) != s.size() {
		return shape{}, api.ErrArg
	}
	// There is at least one element, so this is about the type of the array as well.
	for _, v := range a.Elems {
		if v.Kind != a.Type || !value.Valid(v) {
			return shape{}, api.ErrArg
		}
	}
	return s, api.OK
}

// find returns the offset of an element of an array.
func find(a api.Array, subs []int) (int, api.Errno) {
	s, e := shapeOfArray(a)
	if e != api.OK {
		return 0, e
	}
	return s.offset(subs)
}

// converted returns what a function makes of the elements of a list, or its first error.
func converted[From, To any](list []From, convert func(From) (To, api.Errno)) ([]To, api.Errno) {
	results := make([]To, len(list))
	for i, x := range list {
		result, e := convert(x)
		if e != api.OK {
			return nil, e
		}
		results[i] = result
	}
	return results, api.OK
}
