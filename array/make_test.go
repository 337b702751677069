package array_test

import (
	"math"
	"math/rand"
	"reflect"
	"strconv"
	"strings"
	"testing"

	"manorboy/api"
	"manorboy/array"
	"manorboy/real"
)

// dims returns the dimensions with a text, such as "1:2 0:2".
func dims(text string) []api.Dim {
	var l []api.Dim
	for _, word := range strings.Fields(text) {
		lo, hi, _ := strings.Cut(word, ":")
		l = append(l, api.Dim{Lo: number(lo), Hi: number(hi)})
	}
	return l
}

// subs returns the subscript list with a text, such as "1 0".
func subs(text string) []int {
	var l []int
	for _, word := range strings.Fields(text) {
		l = append(l, number(word))
	}
	return l
}

// number returns the integer with a text; M is MaxInt.
func number(text string) int {
	switch text {
	case "M":
		return api.MaxInt
	case "-M":
		return -api.MaxInt
	}
	n, err := strconv.Atoi(text)
	if err != nil {
		panic(text)
	}
	return n
}

// val returns the value with a text.
func val(text string) api.Value {
	if text == "true" || text == "false" {
		return truth(text == "true")
	}
	if n, err := strconv.Atoi(text); err == nil {
		return whole(n)
	}
	return fraction(must(real.Parse(text)))
}

func whole(n int) api.Value { return api.Value{Kind: api.TyInt, I: n} }

func fraction(x api.Real) api.Value { return api.Value{Kind: api.TyReal, R: x} }

func truth(b bool) api.Value { return api.Value{Kind: api.TyBool, B: b} }

// arr returns the array with dimensions and elements that have texts; its type is that of the first element.
func arr(bounds, elems string) api.Array {
	a := api.Array{Dims: dims(bounds)}
	for _, word := range strings.Fields(elems) {
		a.Elems = append(a.Elems, val(word))
	}
	a.Type = a.Elems[0].Kind
	return a
}

// must returns a result without an error.
func must[T any](result T, e api.Errno) T {
	if e != api.OK {
		panic(e)
	}
	return result
}

// wantOutcome checks a result and an error; together with an error, the result has to be zero: R4.
func wantOutcome(t *testing.T, what string, got any, e api.Errno, want any, err api.Errno) {
	t.Helper()
	switch {
	case e != err:
		t.Errorf("%s: %v, %d; want %v, %d", what, got, e, want, err)
	case err != api.OK && !isNothing(got), err == api.OK && !reflect.DeepEqual(got, want):
		t.Errorf("%s = %v, %d; want %v", what, got, e, want)
	}
}

// wantNothing checks an error, and that the result beside it is zero: R4.
func wantNothing(t *testing.T, what string, got any, e, want api.Errno) {
	t.Helper()
	wantOutcome(t, what, got, e, nil, want)
}

// isNothing reports whether a result is zero: an empty list is, too.
func isNothing(got any) bool {
	v := reflect.ValueOf(got)
	return v.IsZero() || v.Kind() == reflect.Slice && v.Len() == 0
}

// types are the types of arrays.
func types() []int { return []int{api.TyInt, api.TyReal, api.TyBool} }

// noTypes are numbers of no type with values.
func noTypes() []int { return []int{api.TyNone, -1, 4, 5, 1<<32 + 1, math.MaxInt, math.MinInt} }

// proper are the texts of proper dimensions: small ones, and those at all limits.
func proper() []string {
	return []string{
		"0:0", "1:1", "-1:-1", "1:3", "-3:3", "-7:-5", "1:1000", "-999:0", "M:M", "-M:-M", "2147482648:M", "-M:-2147482648",
		"1:2 0:2", "0:2 1:2", "-1:1 -1:1", "1:1 1:1", "1:1000 5:5", "5:5 1:1000", "1:25 1:40", "-M:-M M:M", "-M:-2147482648 M:M", "M:M 2147482648:M",
		"1:2 1:3 1:4", "-2:0 7:7 3:6", "1:10 1:10 1:10", "-4:5 -9:0 M:M",
		"1:1 1:1 1:1 1:1", "1:2 1:2 1:2 1:2", "0:1 -1:1 2:2 -3:0", "1:5 1:5 1:5 1:8", "-M:-2147483643 2147483643:M 0:4 -8:-1", "7:7 1:1000 7:7 7:7",
	}
}

// improper are the texts of dimensions that are not proper: empty ones, and those that are too large, also where a product of sizes below 0 is above it, and where one out of the range of int (2^64, 2^64 + 5) would be small again.
func improper() []string {
	return []string{
		"5:4", "1:0", "M:-M", "0:-1", "1:1001", "-1000:0", "-M:M", "0:M", "-M:0", "-500:500",
		"1:2 5:4", "5:4 1:2", "5:3 5:3", "3:1 9:6", "1:1000 1:2", "1:2 1:1000", "1:26 1:39", "-M:M -M:M", "1:1001 5:4", "5:4 1:1001", "1:0 -M:M",
		"1:10 1:10 1:11", "1:1001 1:1 1:1", "1:2 2:1 1:2", "4:1 4:1 1:2", "0:M 0:M 0:M", "1:609 1:36760123 1:823996703",
		"1:5 1:5 1:5 1:9", "-M:M -M:M -M:M -M:M", "0:65535 0:65535 0:65535 0:65535", "1:2 1:2 1:2 2:1", "3:1 3:1 3:1 3:1", "1:65536 1:65536 1:65536 1:0", "0:0 0:0 0:0 1:1001", "1:21 1:29 1:36760123 1:823996703",
	}
}

// noDims are lists that are no lists of dimensions.
func noDims() [][]api.Dim {
	l := [][]api.Dim{nil, {}, dims("1:1 1:1 1:1 1:1 1:1"), dims("5:4 1:1 1:1 1:1 1:1001"), make([]api.Dim, 1000)}
	for _, n := range []int{api.MaxInt + 1, -api.MaxInt - 1, 1 << 32, 1<<32 + 1, math.MaxInt, math.MinInt} {
		for _, d := range []api.Dim{{Lo: n, Hi: n}, {Lo: 1, Hi: n}, {Lo: n, Hi: 1}} {
			l = append(l, []api.Dim{d}, []api.Dim{d, {Lo: 1, Hi: 2}}, []api.Dim{{Lo: 5, Hi: 4}, d}, []api.Dim{{Lo: 1, Hi: 1}, {Lo: 1, Hi: 1001}, {Lo: 1, Hi: 1}, d})
		}
	}
	return l
}

// noValues are values that are not valid.
func noValues() []api.Value {
	return []api.Value{
		{}, {Kind: 4}, {Kind: -1, I: 1}, {I: 1}, whole(api.MaxInt + 1), whole(math.MinInt), {Kind: api.TyInt, B: true}, {Kind: api.TyInt, R: api.Real{Man: 1 << 23}},
		{Kind: api.TyReal, I: 1}, {Kind: api.TyReal, R: api.Real{Man: 1}}, {Kind: api.TyReal, R: api.Real{Exp: 1}}, {Kind: api.TyBool, I: 1}, {Kind: api.TyBool, B: true, R: api.Real{Exp: 1}},
	}
}

// noArrays are arrays that are not valid.
func noArrays() []api.Array {
	l := []api.Array{{}, {Type: api.TyInt}, {Type: api.TyInt, Dims: dims("1:2")}, {Type: api.TyInt, Elems: []api.Value{whole(0)}}}
	right := []api.Array{arr("1:2", "7 8"), arr("1:2", "0.5 1.5"), arr("1:2 0:0", "true false")}
	for _, a := range right {
		for _, kind := range append(types(), noTypes()...) {
			if kind != a.Type {
				l = append(l, api.Array{Type: kind, Dims: a.Dims, Elems: a.Elems})
			}
		}
		for _, d := range append(noDims(), dims("5:4"), dims("1:1"), dims("1:3"), dims("1:1001"), dims("1:2 1:2"), dims("1:0 1:2"), dims("2:1 5:4"), dims("3:1 1:0 1:2")) {
			l = append(l, api.Array{Type: a.Type, Dims: d, Elems: a.Elems})
		}
		for _, elems := range [][]api.Value{nil, {}, a.Elems[:1], append(a.Elems[:2:2], a.Elems[0])} {
			l = append(l, api.Array{Type: a.Type, Dims: a.Dims, Elems: elems})
		}
		for _, v := range append(noValues(), val("1"), val("1.0"), val("true")) {
			if v.Kind != a.Type || isIn(noValues(), v) {
				l = append(l, api.Array{Type: a.Type, Dims: a.Dims, Elems: []api.Value{v, a.Elems[1]}}, api.Array{Type: a.Type, Dims: a.Dims, Elems: []api.Value{a.Elems[0], v}}, api.Array{Type: v.Kind, Dims: a.Dims, Elems: []api.Value{v, a.Elems[1]}})
			}
		}
	}
	for _, text := range improper() {
		// One of these numbers is what a wrong product says.
		for n := range 6 {
			l = append(l, api.Array{Type: api.TyInt, Dims: dims(text), Elems: filled(n)})
		}
	}
	return append(l, api.Array{Type: api.TyInt, Dims: dims("1:1001"), Elems: filled(1001)})
}

func isIn(list []api.Value, v api.Value) bool {
	for _, x := range list {
		if x == v {
			return true
		}
	}
	return false
}

// filled returns n integers.
func filled(n int) []api.Value {
	l := make([]api.Value, n)
	for i := range l {
		l[i] = whole(i + 1)
	}
	return l
}

// maker makes dimensions, subscripts, values and arrays by chance, from a fixed seed.
type maker struct{ *rand.Rand }

func newMaker(seed int64) maker { return maker{rand.New(rand.NewSource(seed))} }

// from returns an integer from lo to hi.
func (m maker) from(lo, hi int) int { return lo + m.Intn(hi-lo+1) }

// dims returns count proper dimensions with from 1 to most subscripts each, near to 0, or at an end of the integers.
func (m maker) dims(count, most int) []api.Dim {
	most = min(most, []int{1000, 31, 10, 5}[count-1])
	l := make([]api.Dim, count)
	for i := range l {
		lo, size := m.from(-4, 4), m.from(1, most)
		switch m.Intn(12) {
		case 0:
			lo = api.MaxInt - size + 1
		case 1:
			lo = -api.MaxInt
		}
		l[i] = api.Dim{Lo: lo, Hi: lo + size - 1}
	}
	return l
}

// near returns proper dimensions whose bounds are near to those of others.
func (m maker) near(d []api.Dim) []api.Dim {
	for {
		l := make([]api.Dim, len(d))
		for i, x := range d {
			l[i] = api.Dim{Lo: x.Lo + m.from(-2, 2), Hi: x.Hi + m.from(-2, 2)}
		}
		if dimsError(l) == api.OK {
			return l
		}
	}
}

// value returns a value of a type, which is seldom 0.
func (m maker) value(kind int) api.Value {
	switch kind {
	case api.TyInt:
		return whole(m.from(-1000, 1000))
	case api.TyReal:
		return fraction(must(real.Div(real.FromInt(m.from(-100000, 100000)), real.FromInt(8))))
	}
	return truth(m.Intn(2) == 1)
}

// array returns an array of a type.
func (m maker) array(kind int, d []api.Dim) api.Array {
	a := api.Array{Type: kind, Dims: d}
	for range must(array.Size(d)) {
		a.Elems = append(a.Elems, m.value(kind))
	}
	return a
}

// one returns an element of a list.
func one[T any](m maker, list []T) T { return list[m.Intn(len(list))] }
