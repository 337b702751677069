package array

import (
	"iter"

	"manorboy/api"
)

// shape is a list of dimensions that can be compared. Behind the dimensions that count there are some from 0 to 0: they change neither sizes nor offsets, so nothing has to tell them apart.
type shape struct {
	count int
	dims  [api.MaxDims]api.Dim
}

// subscripts is a subscript list for a shape, with a 0 for each dimension that does not count.
type subscripts [api.MaxDims]int

// shapeOf returns the shape of proper dimensions.
func shapeOf(dims []api.Dim) (shape, api.Errno) {
	if len(dims) < 1 || len(dims) > api.MaxDims {
		return shape{}, api.ErrArg
	}
	for _, d := range dims {
		if !isBound(d.Lo) || !isBound(d.Hi) {
			return shape{}, api.ErrArg
		}
	}
	s := shape{count: len(dims)}
	copy(s.dims[:], dims)
	if size := s.size(); size < 1 || size > api.MaxElems {
		return shape{}, api.ErrRange
	}
	return s, api.OK
}

// isBound reports whether a number can be a bound.
func isBound(n int) bool { return -api.MaxInt <= n && n <= api.MaxInt }

// list returns the dimensions as a new list.
func (s shape) list() []api.Dim {
	return append([]api.Dim(nil), s.dims[:s.count]...)
}

// sizes returns how many subscripts are in the bounds of each dimension.
func (s shape) sizes() [api.MaxDims]int {
	var sizes [api.MaxDims]int
	for i, d := range s.dims {
		sizes[i] = max(d.Hi-d.Lo+1, 0)
	}
	return sizes
}

// size returns how many subscript lists are in bounds, and for all numbers above MaxElems the same one, so that the product never gets out of the range of int.
func (s shape) size() int {
	size := 1
	for _, n := range s.sizes() {
		size = min(size*n, api.MaxElems+1)
	}
	return size
}

// common returns the shape whose subscript lists are those of both shapes; its size is 0 if there are none.
func (s shape) common(other shape) shape {
	for i, d := range other.dims {
		s.dims[i] = api.Dim{Lo: max(s.dims[i].Lo, d.Lo), Hi: min(s.dims[i].Hi, d.Hi)}
	}
	return s
}

// offset returns the offset of a subscript list that need not fit.
func (s shape) offset(subs []int) (int, api.Errno) {
	if len(subs) != s.count {
		return 0, api.ErrKind
	}
	var all subscripts
	copy(all[:], subs)
	if !s.contains(all) {
		return 0, api.ErrRange
	}
	return s.linear().offset(all), api.OK
}

// contains reports whether a subscript list is in bounds.
func (s shape) contains(subs subscripts) bool {
	for i, d := range s.dims {
		if subs[i] < d.Lo || subs[i] > d.Hi {
			return false
		}
	}
	return true
}

// at returns the subscript list with an offset.
func (s shape) at(offset int) subscripts {
	var subs subscripts
	sizes := s.sizes()
	for i := len(sizes) - 1; i >= 0; i-- {
		subs[i] = s.dims[i].Lo + offset%sizes[i]
		offset /= sizes[i]
	}
	return subs
}

// all yields the subscript lists that are in bounds, in their order.
func (s shape) all() iter.Seq[subscripts] {
	return func(yield func(subscripts) bool) {
		for offset := range s.size() {
			if !yield(s.at(offset)) {
				return
			}
		}
	}
}

// linear is the offset as a function of the subscripts: the origin, plus the products of subscripts and strides.
type linear struct {
	strides [api.MaxDims]int
	origin  int
}

// linear returns the linear form of a shape.
func (s shape) linear() linear {
	var form linear
	stride := 1
	sizes := s.sizes()
	for i := len(sizes) - 1; i >= 0; i-- {
		form.strides[i] = stride
		form.origin -= stride * s.dims[i].Lo
		stride *= sizes[i]
	}
	return form
}

// offset returns the offset of a subscript list that is in bounds.
func (form linear) offset(subs subscripts) int {
	offset := form.origin
	for i, stride := range form.strides {
		offset += stride * subs[i]
	}
	return offset
}

// formsOf returns the linear forms of two shapes. Most often an own array keeps its bounds: then there is just one form.
func formsOf(a, b shape) map[shape]linear {
	forms := map[shape]linear{a: a.linear()}
	if _, known := forms[b]; !known {
		forms[b] = b.linear()
	}
	return forms
}
