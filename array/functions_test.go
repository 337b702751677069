package array_test

import (
	"math"
	"slices"
	"testing"

	"manorboy/api"
	"manorboy/array"
)

// TestSize checks P8.1 and the terms: proper dimensions, dimensions that are not proper, and lists that are no dimensions.
func TestSize(t *testing.T) {
	for _, text := range proper() {
		size, e := array.Size(dims(text))
		wantOutcome(t, "Size of "+text, size, e, int(sizeOf(dims(text)).Int64()), api.OK)
	}
	for _, text := range improper() {
		size, e := array.Size(dims(text))
		wantNothing(t, "Size of "+text, size, e, api.ErrRange)
	}
	for _, d := range noDims() {
		size, e := array.Size(d)
		wantNothing(t, "Size", size, e, api.ErrArg)
	}
}

// TestSizeOfAny checks P8.1 for dimensions whose bounds are near to each other, far apart, or in the wrong order.
func TestSizeOfAny(t *testing.T) {
	m := newMaker(1)
	seen := map[api.Errno]int{}
	for range 20000 {
		d := make([]api.Dim, m.from(0, 5))
		for i := range d {
			reach := 1 << m.from(0, 32)
			lo := m.from(-reach, reach)
			d[i] = api.Dim{Lo: lo, Hi: lo + m.from(-2, 1<<m.from(1, 12))}
		}
		want := 0
		if dimsError(d) == api.OK {
			want = int(sizeOf(d).Int64())
		}
		size, e := array.Size(d)
		wantOutcome(t, "Size", size, e, want, dimsError(d))
		seen[e]++
	}
	if seen[api.OK] < 1000 || seen[api.ErrRange] < 1000 || seen[api.ErrArg] < 1000 {
		t.Errorf("only %v", seen)
	}
}

// TestOffset checks P8.2 for all subscript lists that are in bounds.
func TestOffset(t *testing.T) {
	for _, text := range proper() {
		d := dims(text)
		for k, list := range listsOf(d) {
			offset, e := array.Offset(d, list)
			wantOutcome(t, "Offset in "+text, offset, e, k, api.OK)
			back, e := array.Subscripts(d, k)
			wantOutcome(t, "Subscripts in "+text, back, e, list, api.OK)
		}
	}
}

// TestOffsetOutOfBounds checks P8.2 for subscript lists that are not in bounds, next to them or far away, in each place.
func TestOffsetOutOfBounds(t *testing.T) {
	for _, text := range proper() {
		d := dims(text)
		lists := listsOf(d)
		for _, inside := range [][]int{lists[0], lists[len(lists)/2], lists[len(lists)-1]} {
			for i, x := range d {
				for _, n := range []int{x.Lo - 1, x.Hi + 1, x.Lo - 1000, x.Hi + 1000, x.Lo - 1<<32, x.Hi + 1<<32, math.MinInt, math.MaxInt} {
					list := slices.Clone(inside)
					list[i] = n
					offset, e := array.Offset(d, list)
					wantNothing(t, "Offset in "+text, offset, e, api.ErrRange)
				}
			}
		}
	}
}

// TestOffsetOfOtherLength checks P8.2: another number of elements is ErrKind, whether they are in bounds or not.
func TestOffsetOfOtherLength(t *testing.T) {
	for _, text := range proper() {
		d := dims(text)
		first := listsOf(d)[0]
		lists := [][]int{nil, {}, first[:len(first)-1], append(slices.Clone(first), 0), append(slices.Clone(first), 1), append(slices.Clone(first), math.MaxInt), make([]int, 5), make([]int, 2000)}
		for n := range 7 {
			lists = append(lists, make([]int, n), slices.Repeat([]int{math.MinInt}, n))
		}
		for _, list := range lists {
			if len(list) != len(d) {
				offset, e := array.Offset(d, list)
				wantNothing(t, "Offset in "+text, offset, e, api.ErrKind)
			}
		}
	}
}

// TestSubscriptsOutOfRange checks P8.2 for offsets that are none.
func TestSubscriptsOutOfRange(t *testing.T) {
	for _, text := range proper() {
		d := dims(text)
		size := len(listsOf(d))
		for _, offset := range []int{-1, size, -2, size + 1, -size, 1001, 1 << 32, math.MaxInt, math.MinInt} {
			list, e := array.Subscripts(d, offset)
			wantNothing(t, "Subscripts in "+text, list, e, api.ErrRange)
		}
	}
}

// TestStrides checks P8.3: the offset of each subscript list is the linear form, and each stride is the product of the sizes behind it.
func TestStrides(t *testing.T) {
	for _, text := range proper() {
		d := dims(text)
		strides, origin, e := array.Strides(d)
		if e != api.OK || len(strides) != len(d) {
			t.Fatalf("Strides of %s = %v, %d, %d", text, strides, origin, e)
		}
		for i, stride := range strides {
			if want := int(sizeOf(d[i+1:]).Int64()); stride != want {
				t.Errorf("the stride %d of %s is %d; want %d", i, text, stride, want)
			}
		}
		for k, list := range listsOf(d) {
			sum := origin
			for i, n := range list {
				sum += strides[i] * n
			}
			if sum != k {
				t.Errorf("in %s the offset of %v is %d; want %d", text, list, sum, k)
			}
		}
	}
}

// TestCommon checks P8.4: the lists in bounds of the result are those that are in bounds of both.
func TestCommon(t *testing.T) {
	m := newMaker(2)
	seen := map[api.Errno]int{}
	check := func(a, b []api.Dim) {
		t.Helper()
		got, e := array.Common(a, b)
		seen[e]++
		if len(a) != len(b) {
			wantNothing(t, "Common", got, e, api.ErrKind)
			return
		}
		var want [][]int
		for _, list := range listsOf(a) {
			if isInside(b, list) {
				want = append(want, list)
			}
		}
		switch {
		case len(want) == 0:
			wantNothing(t, "Common", got, e, api.ErrNone)
		case e != api.OK || dimsError(got) != api.OK || !slices.EqualFunc(listsOf(got), want, slices.Equal):
			t.Errorf("Common of %v and %v = %v, %d", a, b, got, e)
		}
	}
	for _, a := range proper() {
		for _, b := range proper() {
			check(dims(a), dims(b))
		}
	}
	for range 3000 {
		count := m.from(1, 4)
		check(m.dims(count, 6), m.dims(count, 6))
	}
	if seen[api.OK] < 500 || seen[api.ErrNone] < 500 || seen[api.ErrKind] < 300 {
		t.Errorf("only %v", seen)
	}
}

// TestNew checks P8.5: all types, with all proper dimensions.
func TestNew(t *testing.T) {
	zeros := []api.Value{val("0"), val("0.0"), val("false")}
	for _, text := range proper() {
		for i, kind := range types() {
			a, e := array.New(kind, dims(text))
			want := api.Array{Type: kind, Dims: dims(text), Elems: slices.Repeat(zeros[i:i+1], len(listsOf(dims(text))))}
			wantOutcome(t, "New", a, e, want, api.OK)
			if e := array.Check(a); e != api.OK {
				t.Errorf("Check of a new array: %d", e)
			}
		}
	}
}

// TestCheck checks P8.5: arrays that are valid, and arrays that are not.
func TestCheck(t *testing.T) {
	for _, a := range someArrays(3) {
		if e := array.Check(a); e != api.OK {
			t.Errorf("%v is not valid: %d", a, e)
		}
	}
	for _, a := range noArrays() {
		if isArray(a) {
			t.Fatalf("%v is valid", a)
		}
		if e := array.Check(a); e != api.ErrArg {
			t.Errorf("Check of %v: %d", a, e)
		}
	}
}

// someArrays are arrays of all types, with proper dimensions of all kinds.
func someArrays(seed int64) []api.Array {
	m := newMaker(seed)
	l := []api.Array{arr("1:3", "7 8 9"), arr("1:2", "1.5 -0.25"), arr("0:0", "true"), arr("1:2 0:2", "1 2 3 4 5 6"), arr("-M:-M", "-2147483647"), arr("M:M M:M", "3.0e25")}
	for _, text := range proper() {
		for _, kind := range types() {
			l = append(l, m.array(kind, dims(text)))
		}
	}
	for range 100 {
		l = append(l, m.array(one(m, types()), m.dims(m.from(1, 4), 6)))
	}
	return l
}

// TestGet checks P8.6 for all elements.
func TestGet(t *testing.T) {
	for _, a := range someArrays(4) {
		for k, list := range listsOf(a.Dims) {
			v, e := array.Get(a, list)
			wantOutcome(t, "Get", v, e, a.Elems[k], api.OK)
		}
	}
}

// TestSet checks P8.6: one element becomes the value, converted to the type of the array, and all others stay.
func TestSet(t *testing.T) {
	m := newMaker(5)
	for _, a := range someArrays(6) {
		lists := listsOf(a.Dims)
		for range 10 {
			k := m.Intn(len(lists))
			v := m.value(one(m, types()))
			want, err := wantSet(a, k, v)
			got, e := array.Set(a, lists[k], v)
			wantOutcome(t, "Set", got, e, want, err)
		}
	}
}

// wantSet returns what Set has to return for the element k.
func wantSet(a api.Array, k int, v api.Value) (api.Array, api.Errno) {
	changed, e := wantConverted(api.Array{Elems: []api.Value{v}}, a.Type)
	if e != api.OK {
		return api.Array{}, e
	}
	return api.Array{Type: a.Type, Dims: a.Dims, Elems: slices.Concat(a.Elems[:k], changed.Elems, a.Elems[k+1:])}, api.OK
}

// TestSetConverts checks P8.6: conversions, and values that cannot be converted.
func TestSetConverts(t *testing.T) {
	for _, c := range []struct{ array, v, want string }{
		{"7 8 9", "2.5", "7 3 9"}, {"7 8 9", "-2.5", "7 -2 9"}, {"7 8 9", "2147483520.0", "7 2147483520 9"}, {"7 8 9", "-2147483647", "7 -2147483647 9"},
		{"0.5 1.5 2.5", "3", "0.5 3.0 2.5"}, {"0.5 1.5 2.5", "16777217", "0.5 16777216.0 2.5"}, {"true true true", "false", "true false true"},
	} {
		got, e := array.Set(arr("1:3", c.array), subs("2"), val(c.v))
		wantOutcome(t, "Set", got, e, arr("1:3", c.want), api.OK)
	}
	for _, c := range []struct {
		array, v string
		want     api.Errno
	}{
		{"7 8 9", "2147483648.0", api.ErrRange}, {"7 8 9", "-1.0e20", api.ErrRange}, {"7 8 9", "true", api.ErrType}, {"0.5 1.5 2.5", "false", api.ErrType}, {"true true true", "1", api.ErrType}, {"true true true", "1.0e20", api.ErrType},
	} {
		got, e := array.Set(arr("1:3", c.array), subs("2"), val(c.v))
		wantNothing(t, "Set", got, e, c.want)
	}
}

// TestResize checks P8.7: dimensions that contain the old ones, lie in them, are next to them, or far away.
func TestResize(t *testing.T) {
	m := newMaker(7)
	kept := map[bool]int{}
	check := func(a api.Array, d []api.Dim) {
		t.Helper()
		got, e := array.Resize(a, d)
		if len(d) != len(a.Dims) {
			wantNothing(t, "Resize", got, e, api.ErrKind)
			return
		}
		wantOutcome(t, "Resize", got, e, wantResized(a, d), api.OK)
		_, none := array.Common(a.Dims, d)
		kept[none == api.OK]++
	}
	for _, a := range someArrays(8) {
		for _, text := range proper() {
			check(a, dims(text))
		}
		for range 10 {
			check(a, m.dims(len(a.Dims), 6))
			check(a, m.near(a.Dims))
		}
	}
	if kept[true] < 1000 || kept[false] < 1000 {
		t.Errorf("only %v", kept)
	}
}

// TestConvert checks P8.8 for arrays of all types, and all types.
func TestConvert(t *testing.T) {
	for _, a := range someArrays(9) {
		for _, kind := range types() {
			want, err := wantConverted(a, kind)
			got, e := array.Convert(a, kind)
			wantOutcome(t, "Convert", got, e, want, err)
		}
	}
}

// TestConvertErrors checks P8.8: a type that is none, an element that is too great wherever it is, and types that do not go together.
func TestConvertErrors(t *testing.T) {
	for _, elems := range []string{"2147483648.0 1.0 2.0", "1.0 -2147483648.0 2.0", "1.0 2.0 1.0e30", "1.0e30 -1.0e30 1.0e20"} {
		got, e := array.Convert(arr("1:3", elems), api.TyInt)
		wantNothing(t, "Convert", got, e, api.ErrRange)
		got, e = array.Convert(arr("1:3", elems), api.TyBool)
		wantNothing(t, "Convert", got, e, api.ErrType)
	}
	for _, a := range []api.Array{arr("1:2", "1 2"), arr("1:2", "1.0 1.0e30"), arr("1:2", "true false")} {
		for _, kind := range noTypes() {
			got, e := array.Convert(a, kind)
			wantNothing(t, "Convert", got, e, api.ErrArg)
		}
		for _, kind := range types() {
			if (a.Type == api.TyBool) != (kind == api.TyBool) {
				got, e := array.Convert(a, kind)
				wantNothing(t, "Convert", got, e, api.ErrType)
			}
		}
	}
}

// TestSame checks P8.9: arrays that differ in one thing only, and arrays that are not valid.
func TestSame(t *testing.T) {
	l := []api.Array{
		arr("1:2", "0 0"), arr("1:2", "0 1"), arr("1:2", "1 0"), arr("0:1", "0 0"), arr("2:3", "0 0"), arr("1:1", "0"), arr("1:3", "0 0 0"), arr("1:2", "0.0 0.0"), arr("1:2", "0.0 0.5"), arr("1:2", "false false"), arr("1:2", "false true"),
		arr("1:2 0:0", "0 0"), arr("0:0 1:2", "0 0"), arr("1:2 1:1", "0 0"), arr("1:2 0:0 0:0", "0 0"), arr("1:2 0:0 0:0 0:0", "0 0"), arr("1:1 1:2", "0 0"),
		arr("1:2 0:2", "1 2 3 4 5 6"), arr("0:2 1:2", "1 2 3 4 5 6"), arr("1:3 0:1", "1 2 3 4 5 6"), arr("1:2 0:2", "1 2 3 4 5 7"),
	}
	for i, a := range l {
		for j, b := range l {
			copied := api.Array{Type: b.Type, Dims: slices.Clone(b.Dims), Elems: slices.Clone(b.Elems)}
			if array.Same(a, copied) != (i == j) {
				t.Errorf("Same(%v, %v)", a, b)
			}
		}
	}
	for _, a := range noArrays() {
		if array.Same(a, a) || array.Same(a, l[0]) || array.Same(l[0], a) {
			t.Errorf("%v is the same as another one", a)
		}
	}
}

// TestExamples checks the chapter's examples.
func TestExamples(t *testing.T) {
	d := dims("1:2 0:2")
	for _, c := range []struct {
		list string
		want int
		e    api.Errno
	}{{"1 0", 0, api.OK}, {"1 2", 2, api.OK}, {"2 0", 3, api.OK}, {"3 0", 0, api.ErrRange}, {"1", 0, api.ErrKind}} {
		offset, e := array.Offset(d, subs(c.list))
		wantOutcome(t, "Offset of "+c.list, offset, e, c.want, c.e)
	}
	size, e := array.Size(d)
	wantOutcome(t, "Size", size, e, 6, api.OK)
	list, e := array.Subscripts(d, 5)
	wantOutcome(t, "Subscripts", list, e, subs("2 2"), api.OK)
	strides, origin, e := array.Strides(d)
	wantOutcome(t, "Strides", strides, e, subs("3 1"), api.OK)
	wantOutcome(t, "the number o", origin, e, -3, api.OK)
	common, e := array.Common(d, dims("2:5 -1:1"))
	wantOutcome(t, "Common", common, e, dims("2:2 0:1"), api.OK)
	for _, text := range []string{"5:4", "1:1001"} {
		size, e := array.Size(dims(text))
		wantNothing(t, "Size of "+text, size, e, api.ErrRange)
	}
	there, e := array.Resize(arr("1:3", "7 8 9"), dims("2:4"))
	wantOutcome(t, "Resize", there, e, arr("2:4", "8 9 0"), api.OK)
	back, e := array.Resize(there, dims("1:3"))
	wantOutcome(t, "Resize", back, e, arr("1:3", "0 8 9"), api.OK)
	integers, e := array.Convert(arr("1:2", "1.5 -0.25"), api.TyInt)
	wantOutcome(t, "Convert", integers, e, arr("1:2", "2 0"), api.OK)
}
