package value_test

import (
	"math"
	"reflect"
	"testing"

	"manorboy/api"
	"manorboy/tree"
	"manorboy/value"
)

// noOperators are numbers of no operator with two operands.
func noOperators() []int {
	return []int{0, -1, api.OpNeg, api.OpNot, api.OpEqv + 1, -api.OpAdd, math.MaxInt, math.MinInt, 1<<32 + api.OpAdd}
}

// wantNothing checks an error, and that the result beside it is zero.
func wantNothing(t *testing.T, what string, got any, e, want api.Errno) {
	t.Helper()
	if e != want || !reflect.ValueOf(got).IsZero() {
		t.Errorf("%s = %v, %d; want the error %d", what, got, e, want)
	}
}

// TestInvalidValue checks that a value that is not valid is an ErrArg for each function, in each place, and ahead of every other error: the section Errors.
func TestInvalidValue(t *testing.T) {
	for _, v := range invalid() {
		for _, kind := range types() {
			got, e := value.Convert(kind, v)
			wantNothing(t, "Convert", got, e, api.ErrArg)
			text, e := value.Write(kind, v)
			wantNothing(t, "Write", text, e, api.ErrArg)
		}
		exp, e := value.Exp(v)
		wantNothing(t, "Exp", exp, e, api.ErrArg)
		n, e := value.Subscript(v)
		wantNothing(t, "Subscript", n, e, api.ErrArg)
		b, e := value.Truth(v)
		wantNothing(t, "Truth", b, e, api.ErrArg)
		text, e := value.Show(v)
		wantNothing(t, "Show", text, e, api.ErrArg)
		for op := api.OpNeg; op <= api.OpNot; op++ {
			got, e := value.One(op, v)
			wantNothing(t, "One", got, e, api.ErrArg)
		}
		for fn := api.FnAbs; fn <= api.FnEntier; fn++ {
			got, e := value.Call(fn, v)
			wantNothing(t, "Call", got, e, api.ErrArg)
		}
		for _, other := range []api.Value{val("0"), val("0.0"), val("true"), v} {
			wantInvalidPair(t, v, other)
			wantInvalidPair(t, other, v)
		}
	}
}

// wantInvalidPair checks the functions of several values, of which one at least is not valid.
func wantInvalidPair(t *testing.T, a, b api.Value) {
	t.Helper()
	for _, op := range operators() {
		got, e := value.Two(op, a, b)
		wantNothing(t, "Two", got, e, api.ErrArg)
	}
	order, e := value.Compare(a, b)
	wantNothing(t, "Compare", order, e, api.ErrArg)
	for _, c := range []string{"0", "0.0", "true"} {
		for _, l := range [][3]api.Value{{a, b, val(c)}, {a, val(c), b}, {val(c), a, b}} {
			goes, e := value.Within(l[0], l[1], l[2])
			wantNothing(t, "Within", goes, e, api.ErrArg)
		}
	}
}

// TestNoSuchType checks types and numbers of functions that do not exist, for Convert, Write and Call: P7.3, P7.9 and P7.10.
func TestNoSuchType(t *testing.T) {
	for _, v := range append([]api.Value{val("0"), val("1.0e30"), val("true")}, invalid()...) {
		for _, kind := range noTypes() {
			got, e := value.Convert(kind, v)
			wantNothing(t, "Convert", got, e, api.ErrArg)
			text, e := value.Write(kind, v)
			wantNothing(t, "Write", text, e, api.ErrArg)
		}
		for _, fn := range []int{0, -1, 4, 5, math.MaxInt, math.MinInt} {
			got, e := value.Call(fn, v)
			wantNothing(t, "Call", got, e, api.ErrArg)
		}
	}
}

// TestNoSuchOperator checks operators that do not exist, or have another number of operands: P7.5 and P7.6.
func TestNoSuchOperator(t *testing.T) {
	l := append([]api.Value{val("0"), val("1"), val("2.5"), val("true"), val("false")}, invalid()...)
	for _, a := range l {
		for _, op := range append(operators(), 0, -1, api.OpEqv+1, math.MaxInt, math.MinInt) {
			got, e := value.One(op, a)
			wantNothing(t, "One", got, e, api.ErrArg)
		}
		for _, b := range l {
			for _, op := range noOperators() {
				got, e := value.Two(op, a, b)
				wantNothing(t, "Two", got, e, api.ErrArg)
			}
		}
	}
}

// TestNoSuchResult checks P7.11: operators that do not exist, types that do not exist, and another number of operands. An ErrType comes behind these.
func TestNoSuchResult(t *testing.T) {
	wantArg := func(op, a, b int) {
		t.Helper()
		kind, e := value.Result(op, a, b)
		wantNothing(t, "Result", kind, e, api.ErrArg)
	}
	all := append(types(), noTypes()...)
	for _, a := range all {
		for _, b := range all {
			for _, op := range noOperators() {
				if op != api.OpNeg && op != api.OpNot {
					wantArg(op, a, b)
				}
			}
		}
		for _, b := range noTypes() {
			for _, op := range operators() {
				wantArg(op, a, b)
				wantArg(op, b, a)
			}
			for op := api.OpNeg; op <= api.OpNot; op++ {
				wantArg(op, b, a)
			}
		}
		for _, b := range append(types(), -1, 4, math.MaxInt, math.MinInt) {
			for op := api.OpNeg; op <= api.OpNot; op++ {
				wantArg(op, a, b)
			}
		}
	}
}

// TestNoNumbers checks that truth values are an ErrType where numbers are needed, ahead of all but ErrArg, and that nothing is returned beside it: P7.6 to P7.9.
func TestNoNumbers(t *testing.T) {
	for _, b := range truths() {
		for _, v := range values() {
			order, e := value.Compare(b, v)
			wantNothing(t, "Compare", order, e, api.ErrType)
			order, e = value.Compare(v, b)
			wantNothing(t, "Compare", order, e, api.ErrType)
			for op := api.OpAdd; op <= api.OpGt; op++ {
				got, e := value.Two(op, b, v)
				wantNothing(t, "Two", got, e, api.ErrType)
				got, e = value.Two(op, v, b)
				wantNothing(t, "Two", got, e, api.ErrType)
			}
			for _, l := range [][3]api.Value{{b, v, v}, {v, b, v}, {v, v, b}, {b, b, v}, {v, b, b}} {
				goes, e := value.Within(l[0], l[1], l[2])
				wantNothing(t, "Within", goes, e, api.ErrType)
			}
		}
	}
}

// TestMemory checks R6 and R7: expressions are new memory, and are not kept.
func TestMemory(t *testing.T) {
	v := val("-5")
	first, _ := value.Exp(v)
	second, _ := value.Exp(v)
	first.Args[0] = api.Exp{Kind: api.ExTrue}
	third, _ := value.Exp(v)
	if !tree.SameExp(second, third) || tree.SameExp(first, third) {
		t.Error("a change of a result changes another one")
	}
	room := []api.Exp{{Kind: api.ExInt, N: 5}, {Kind: 77}}
	e := api.Exp{Kind: api.ExOne, Op: api.OpNeg, Args: room[:1]}
	for range 2 {
		got, err := value.Literal(e)
		wantOutcome(t, "Literal", got, err, "-5")
	}
	if !reflect.DeepEqual(room, []api.Exp{{Kind: api.ExInt, N: 5}, {Kind: 77}}) {
		t.Error("Literal has changed its argument")
	}
	room[0].N = 6
	got, err := value.Literal(e)
	wantOutcome(t, "Literal", got, err, "-6")
}
