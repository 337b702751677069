package array_test

import (
	"reflect"
	"slices"
	"testing"

	"manorboy/api"
	"manorboy/array"
)

// roomy returns a copy of a list with room behind its end, where there are elements that nobody may touch.
func roomy[T any](list []T, behind T) []T {
	return append(slices.Clone(list), behind, behind, behind)[:len(list)]
}

// arguments are what is given to functions, with room behind the ends of all lists.
type arguments struct {
	a     api.Array
	dims  []api.Dim
	other []api.Dim
	subs  []int
}

// roomyArguments returns arguments that fit together.
func roomyArguments(seed int64) arguments {
	m := newMaker(seed)
	d := m.dims(m.from(1, 4), 4)
	a := m.array(api.TyReal, d)
	edge := api.Dim{Lo: 4711, Hi: 4712}
	return arguments{
		a:     api.Array{Type: a.Type, Dims: roomy(d, edge), Elems: roomy(a.Elems, whole(4711))},
		dims:  roomy(d, edge),
		other: roomy(m.dims(len(d), 4), edge),
		subs:  roomy(inside(m, d), 4711),
	}
}

// stretched returns all elements of all lists, up to their capacities.
func (x arguments) stretched() []any {
	return []any{x.a.Type, stretch(x.a.Dims), stretch(x.a.Elems), stretch(x.dims), stretch(x.other), stretch(x.subs)}
}

// stretch returns a copy of a list up to its capacity.
func stretch[T any](list []T) []T { return slices.Clone(list[:cap(list)]) }

// results calls all functions that return lists.
func (x arguments) results() []any {
	strides, _, _ := array.Strides(x.dims)
	list, _ := array.Subscripts(x.dims, 0)
	common, _ := array.Common(x.dims, x.other)
	fresh, _ := array.New(api.TyInt, x.dims)
	set, _ := array.Set(x.a, x.subs, val("7"))
	resized, _ := array.Resize(x.a, x.other)
	unchanged, _ := array.Resize(x.a, x.dims)
	converted, _ := array.Convert(x.a, api.TyReal)
	integers, _ := array.Convert(x.a, api.TyInt)
	return []any{strides, list, common, fresh, set, resized, unchanged, converted, integers}
}

// spoil changes all elements of all lists of a result, up to their capacities.
func spoil(result any) {
	switch x := result.(type) {
	case []int:
		spoilList(x, 99)
	case []api.Dim:
		spoilList(x, api.Dim{Lo: 99, Hi: 99})
	case api.Array:
		spoilList(x.Dims, api.Dim{Lo: 99, Hi: 99})
		spoilList(x.Elems, whole(99))
	}
}

func spoilList[T any](list []T, v T) {
	list = list[:cap(list)]
	for i := range list {
		list[i] = v
	}
}

// TestMemory checks R5 to R7: arguments stay as they are, also behind the ends of their lists, and results are new memory, which nothing keeps.
func TestMemory(t *testing.T) {
	for seed := range int64(100) {
		x, same := roomyArguments(seed), roomyArguments(seed)
		first, second := x.results(), x.results()
		array.Size(x.dims)
		array.Offset(x.dims, x.subs)
		array.Check(x.a)
		array.Get(x.a, x.subs)
		array.Same(x.a, same.a)
		for _, result := range first {
			spoil(result)
		}
		if !reflect.DeepEqual(x.stretched(), same.stretched()) {
			t.Fatal("an argument is changed, or a result shares memory with it")
		}
		if !reflect.DeepEqual(second, same.results()) {
			t.Fatal("results share memory with each other, or are kept")
		}
	}
}

// TestResultsAreApart checks R6: the lists of one call's result, and of several calls' results, do not share memory.
func TestResultsAreApart(t *testing.T) {
	x := roomyArguments(7)
	for i := range x.results() {
		results := x.results()
		want := x.results()
		spoil(results[i])
		for j := range results {
			if j != i && !reflect.DeepEqual(results[j], want[j]) {
				t.Errorf("the results %d and %d share memory", i, j)
			}
		}
	}
}

// TestArgumentsAreNotKept checks R6 and R7: a change of an argument behind a call changes nothing that was returned.
func TestArgumentsAreNotKept(t *testing.T) {
	x, same := roomyArguments(8), roomyArguments(8)
	results := x.results()
	spoil(x.a)
	spoil(x.dims)
	spoil(x.other)
	spoil(x.subs)
	if !reflect.DeepEqual(results, same.results()) {
		t.Error("a result shares memory with an argument")
	}
}
