package value_test

import (
	"strings"
	"testing"

	"manorboy/api"
	"manorboy/tree"
	"manorboy/value"
)

func wantTwoOf(t *testing.T, op int, a, b, want string) {
	t.Helper()
	got, e := value.Two(op, val(a), val(b))
	wantOutcome(t, a+" "+b, got, e, want)
}

// TestValid checks P7.1.
func TestValid(t *testing.T) {
	for _, v := range append(values(), mixed(10, 300)...) {
		if !value.Valid(v) {
			t.Errorf("%v is not valid", v)
		}
	}
	for _, v := range invalid() {
		if value.Valid(v) {
			t.Errorf("%v is valid", v)
		}
	}
}

// TestZero checks P7.1.
func TestZero(t *testing.T) {
	for i, want := range []string{"0", "0.0", "false"} {
		v, e := value.Zero(i + 1)
		wantOutcome(t, "Zero", v, e, want)
	}
	for _, kind := range noTypes() {
		v, e := value.Zero(kind)
		wantOutcome(t, "Zero", v, e, "ErrArg")
	}
}

// TestTwo checks P7.6 by the chapter's examples, and the edges of its table.
func TestTwo(t *testing.T) {
	wantTwoOf(t, api.OpAdd, "2147483647", "1", "ErrRange")
	wantTwoOf(t, api.OpAdd, "2147483647", "1.0", "2147483648.0")
	wantTwoOf(t, api.OpAdd, "-2147483647", "-1", "ErrRange")
	wantTwoOf(t, api.OpSub, "-2147483647", "1", "ErrRange")
	wantTwoOf(t, api.OpSub, "1", "0.75", "0.25")
	wantTwoOf(t, api.OpMul, "46341", "46341", "ErrRange")
	wantTwoOf(t, api.OpMul, "46341", "46341.0", "2147488300.0")
	wantTwoOf(t, api.OpMul, "1.0e30", "1.0e30", "ErrRange")
	wantTwoOf(t, api.OpMul, "1.0e-30", "1.0e-30", "0.0")
	wantTwoOf(t, api.OpDiv, "7", "2", "3.5")
	wantTwoOf(t, api.OpDiv, "6", "2", "3.0")
	wantTwoOf(t, api.OpDiv, "6", "0", "ErrNone")
	wantTwoOf(t, api.OpDiv, "0", "0.0", "ErrNone")
	wantTwoOf(t, api.OpDiv, "true", "0", "ErrType")
	wantTwoOf(t, api.OpDiv, "1.0e30", "1.0e-30", "ErrRange")
	wantTwoOf(t, api.OpQuo, "-7", "2", "-3")
	wantTwoOf(t, api.OpQuo, "7", "-2", "-3")
	wantTwoOf(t, api.OpQuo, "7", "0", "ErrNone")
	wantTwoOf(t, api.OpQuo, "7.0", "2", "ErrType")
	wantTwoOf(t, api.OpQuo, "7", "2.0", "ErrType")
	wantTwoOf(t, api.OpQuo, "7.0", "0", "ErrType")
	wantTwoOf(t, api.OpQuo, "true", "0", "ErrType")
	wantTwoOf(t, api.OpEq, "16777217", "16777216.0", "true")
	wantTwoOf(t, api.OpEq, "16777217", "16777216", "false")
	wantTwoOf(t, api.OpLt, "16777216.0", "16777217", "false")
	wantTwoOf(t, api.OpLt, "true", "1", "ErrType")
	wantTwoOf(t, api.OpEq, "true", "true", "ErrType")
	wantTwoOf(t, api.OpAnd, "true", "1", "ErrType")
	wantTwoOf(t, api.OpOr, "0.0", "false", "ErrType")
	wantTwoOf(t, api.OpEqv, "1", "1", "ErrType")
	wantTwoOf(t, api.OpImp, "true", "false", "false")
}

// TestPow checks the row of P7.6 that has the most cases.
func TestPow(t *testing.T) {
	for _, x := range []struct{ a, b, want string }{
		{"2", "10", "1024"}, {"2", "30", "1073741824"}, {"2", "31", "ErrRange"}, {"-2", "31", "ErrRange"}, {"2", "2147483647", "ErrRange"}, {"-1", "2147483647", "-1"}, {"1", "-2147483647", "1.0"}, {"-1", "-2147483647", "-1.0"},
		{"2", "-1", "0.5"}, {"-2", "-3", "-0.125"}, {"3", "-1", "0.33333334"}, {"16777217", "-1", "5.9604645e-8"}, {"2", "-2147483647", "ErrRange"}, {"5", "0", "1"}, {"5.0", "0", "1.0"}, {"-2147483647", "1", "-2147483647"},
		{"0", "0", "ErrNone"}, {"0", "-1", "ErrNone"}, {"0", "1", "0"}, {"0", "2147483647", "0"}, {"0.0", "0", "ErrNone"}, {"0.0", "-1", "ErrNone"}, {"0.0", "3", "0.0"},
		{"0.5", "2", "0.25"}, {"0.5", "-2", "4.0"}, {"2.0", "174", "ErrRange"}, {"0.5", "151", "0.0"}, {"0.5", "-151", "ErrRange"}, {"0.5", "150", "7.0e-46"}, {"-1.0", "2147483647", "-1.0"},
		{"2", "0.5", "ErrType"}, {"2.0", "2.0", "ErrType"}, {"0", "0.0", "ErrType"}, {"0.0", "true", "ErrType"}, {"true", "0", "ErrType"}, {"false", "true", "ErrType"},
	} {
		wantTwoOf(t, api.OpPow, x.a, x.b, x.want)
	}
}

// TestOne checks P7.5.
func TestOne(t *testing.T) {
	for _, x := range []struct {
		op      int
		v, want string
	}{
		{api.OpNeg, "5", "-5"}, {api.OpNeg, "-2147483647", "2147483647"}, {api.OpNeg, "0", "0"}, {api.OpNeg, "0.0", "0.0"}, {api.OpNeg, "-1.5", "1.5"}, {api.OpNeg, "true", "ErrType"},
		{api.OpNot, "true", "false"}, {api.OpNot, "false", "true"}, {api.OpNot, "0", "ErrType"}, {api.OpNot, "1.0", "ErrType"},
	} {
		got, e := value.One(x.op, val(x.v))
		wantOutcome(t, "One of "+x.v, got, e, x.want)
	}
}

// TestConvert checks P7.3 and P7.4 by the chapter's examples, and edges.
func TestConvert(t *testing.T) {
	for _, x := range []struct {
		kind    int
		v, want string
	}{
		{api.TyInt, "2.5", "3"}, {api.TyInt, "-2.5", "-2"}, {api.TyReal, "3", "3.0"}, {api.TyBool, "1", "ErrType"}, {api.TyBool, "1.0", "ErrType"}, {api.TyInt, "true", "ErrType"}, {api.TyReal, "false", "ErrType"},
		{api.TyInt, "0.49999997", "0"}, {api.TyInt, "0.5", "1"}, {api.TyInt, "-0.5", "0"}, {api.TyInt, "-0.75", "-1"}, {api.TyInt, "2147483520.0", "2147483520"}, {api.TyInt, "2147483648.0", "ErrRange"}, {api.TyInt, "-2147483648.0", "ErrRange"}, {api.TyInt, "1.0e30", "ErrRange"},
		{api.TyReal, "16777217", "16777216.0"}, {api.TyReal, "16777219", "16777220.0"}, {api.TyReal, "2147483647", "2147483648.0"}, {api.TyReal, "1.0e30", "1.0e30"}, {api.TyBool, "true", "true"}, {api.TyInt, "-7", "-7"},
	} {
		got, e := value.Convert(x.kind, val(x.v))
		wantOutcome(t, "Convert of "+x.v, got, e, x.want)
		if x.kind == api.TyInt {
			n, e := value.Subscript(val(x.v))
			if e == api.OK {
				got = whole(n)
			} else {
				got = api.Value{I: n}
			}
			wantOutcome(t, "Subscript of "+x.v, got, e, x.want)
		}
	}
}

// TestTruth checks P7.4.
func TestTruth(t *testing.T) {
	for _, v := range values() {
		want := api.OK
		if v.Kind != api.TyBool {
			want = api.ErrType
		}
		if b, e := value.Truth(v); b != v.B || e != want {
			t.Errorf("Truth(%v) = %v, %d", v, b, e)
		}
	}
}

// TestWithin checks P7.8 by the chapter's examples, and edges.
func TestWithin(t *testing.T) {
	for _, x := range []struct {
		v, step, last string
		want          bool
	}{
		{"11", "1", "10", false}, {"10", "1", "10", true}, {"5", "0", "1", true}, {"1", "-2", "0", true}, {"0", "-2", "0", true}, {"-1", "-2", "0", false}, {"9", "1", "10", true},
		{"5", "0.0", "1", true}, {"1", "0", "5", true}, {"16777217", "1", "16777216.0", true}, {"16777217", "1", "16777216", false}, {"16777216.0", "-1", "16777217", true}, {"1.5", "0.25", "1.25", false}, {"1", "-0.25", "1.25", false},
	} {
		if got, e := value.Within(val(x.v), val(x.step), val(x.last)); got != x.want || e != api.OK {
			t.Errorf("Within(%s, %s, %s) = %v, %d", x.v, x.step, x.last, got, e)
		}
	}
	for _, l := range [][3]string{{"true", "0", "1"}, {"1", "true", "1"}, {"1", "0", "true"}, {"1.0", "0.0", "false"}, {"false", "false", "false"}} {
		if got, e := value.Within(val(l[0]), val(l[1]), val(l[2])); got || e != api.ErrType {
			t.Errorf("Within%v = %v, %d", l, got, e)
		}
	}
}

// TestCall checks P7.9 by the chapter's examples, and edges.
func TestCall(t *testing.T) {
	for _, x := range []struct {
		fn      int
		v, want string
	}{
		{api.FnEntier, "-0.5", "-1"}, {api.FnSign, "-0.5", "-1"}, {api.FnAbs, "-3", "3"}, {api.FnAbs, "-2147483647", "2147483647"}, {api.FnAbs, "-1.5", "1.5"}, {api.FnAbs, "0.0", "0.0"}, {api.FnAbs, "4", "4"}, {api.FnAbs, "-1.0e30", "1.0e30"},
		{api.FnSign, "0", "0"}, {api.FnSign, "0.0", "0"}, {api.FnSign, "7.0e-46", "1"}, {api.FnSign, "-2147483647", "-1"}, {api.FnSign, "12", "1"}, {api.FnSign, "1.0e30", "1"},
		{api.FnEntier, "2.5", "2"}, {api.FnEntier, "-7.0e-46", "-1"}, {api.FnEntier, "2147483647", "2147483647"}, {api.FnEntier, "2147483520.0", "2147483520"}, {api.FnEntier, "2147483648.0", "ErrRange"}, {api.FnEntier, "-2147483648.0", "ErrRange"}, {api.FnEntier, "-1.0e30", "ErrRange"},
		{api.FnAbs, "true", "ErrType"}, {api.FnSign, "false", "ErrType"}, {api.FnEntier, "true", "ErrType"},
	} {
		got, e := value.Call(x.fn, val(x.v))
		wantOutcome(t, "Call of "+x.v, got, e, x.want)
	}
}

func exp(kind int, args ...api.Exp) api.Exp { return api.Exp{Kind: kind, Args: args} }

func negative(e api.Exp) api.Exp {
	return api.Exp{Kind: api.ExOne, Op: api.OpNeg, Args: []api.Exp{e}}
}

// TestLiteral checks P7.2: literals, all other valid expressions, and those that are not valid.
func TestLiteral(t *testing.T) {
	five, half := api.Exp{Kind: api.ExInt, N: 5}, api.Exp{Kind: api.ExReal, Real: val("0.5").R}
	name := api.Exp{Kind: api.ExName, Text: "a"}
	endless := exp(api.ExOne, five)
	endless.Op = api.OpNeg
	endless.Args[0] = endless
	for i, x := range []struct {
		e    api.Exp
		want string
	}{
		{five, "5"}, {half, "0.5"}, {negative(five), "-5"}, {negative(half), "-0.5"}, {exp(api.ExTrue), "true"}, {exp(api.ExFalse), "false"}, {api.Exp{Kind: api.ExInt}, "0"}, {api.Exp{Kind: api.ExInt, N: api.MaxInt}, "2147483647"},
		{negative(api.Exp{Kind: api.ExInt, N: api.MaxInt}), "-2147483647"}, {negative(api.Exp{Kind: api.ExInt}), "0"}, {api.Exp{Kind: api.ExReal}, "0.0"}, {negative(api.Exp{Kind: api.ExReal}), "0.0"},
		{negative(exp(api.ExTrue)), "ErrKind"}, {negative(exp(api.ExFalse)), "ErrKind"}, {negative(negative(five)), "ErrKind"}, {negative(name), "ErrKind"}, {name, "ErrKind"}, {api.Exp{Kind: api.ExString, Text: "5"}, "ErrKind"}, {api.Exp{Kind: api.ExString}, "ErrKind"},
		{api.Exp{Kind: api.ExOne, Op: api.OpNot, Args: []api.Exp{five}}, "ErrKind"}, {api.Exp{Kind: api.ExOne, Op: api.OpNot, Args: []api.Exp{exp(api.ExTrue)}}, "ErrKind"}, {api.Exp{Kind: api.ExTwo, Op: api.OpAdd, Args: []api.Exp{five, five}}, "ErrKind"},
		{exp(api.ExIf, exp(api.ExTrue), five, five), "ErrKind"}, {api.Exp{Kind: api.ExIndex, Text: "a", Args: []api.Exp{five}}, "ErrKind"}, {api.Exp{Kind: api.ExCall, Text: "a", Args: []api.Exp{five}}, "ErrKind"},
		{api.Exp{}, "ErrArg"}, {exp(12), "ErrArg"}, {exp(-1), "ErrArg"}, {api.Exp{Kind: api.ExInt, N: -5}, "ErrArg"}, {api.Exp{Kind: api.ExInt, N: api.MaxInt + 1}, "ErrArg"}, {api.Exp{Kind: api.ExInt, N: 5, Text: "a"}, "ErrArg"}, {api.Exp{Kind: api.ExReal, Real: val("-0.5").R}, "ErrArg"},
		{api.Exp{Kind: api.ExReal, Real: api.Real{Man: 1}}, "ErrArg"}, {api.Exp{Kind: api.ExTrue, N: 1}, "ErrArg"}, {exp(api.ExTrue, five), "ErrArg"}, {exp(api.ExOne, five), "ErrArg"}, {api.Exp{Kind: api.ExOne, Op: api.OpNeg}, "ErrArg"}, {api.Exp{Kind: api.ExOne, Op: api.OpNeg, Args: []api.Exp{five, five}}, "ErrArg"},
		{negative(api.Exp{Kind: api.ExInt, N: -5}), "ErrArg"}, {negative(api.Exp{}), "ErrArg"}, {api.Exp{Kind: api.ExName, Text: "end"}, "ErrArg"}, {endless, "ErrArg"}, {negative(endless), "ErrArg"}, {exp(api.ExInt, make([]api.Exp, 1<<20)...), "ErrArg"},
	} {
		got, e := value.Literal(x.e)
		if v, err := outcome(x.want); got != v || e != err {
			t.Errorf("Literal %d = %v, %d; want %s", i, got, e, x.want)
		}
	}
}

// TestExp checks P7.2: the expressions are valid, and have a sign just for numbers below 0.
func TestExp(t *testing.T) {
	for _, x := range []struct {
		v    string
		want api.Exp
	}{
		{"5", api.Exp{Kind: api.ExInt, N: 5}}, {"0", api.Exp{Kind: api.ExInt}}, {"-5", negative(api.Exp{Kind: api.ExInt, N: 5})}, {"-2147483647", negative(api.Exp{Kind: api.ExInt, N: api.MaxInt})},
		{"0.0", api.Exp{Kind: api.ExReal}}, {"0.5", api.Exp{Kind: api.ExReal, Real: val("0.5").R}}, {"-0.5", negative(api.Exp{Kind: api.ExReal, Real: val("0.5").R})}, {"true", exp(api.ExTrue)}, {"false", exp(api.ExFalse)},
	} {
		if got, e := value.Exp(val(x.v)); e != api.OK || !tree.SameExp(got, x.want) {
			t.Errorf("Exp(%s) = %v, %d; want %v", x.v, got, e, x.want)
		}
	}
	for _, v := range values() {
		got, e := value.Exp(v)
		isBelow := v.Kind != api.TyBool && exactOf(v).Sign() < 0
		if e != api.OK || tree.CheckExp(got) != api.OK || (got.Kind == api.ExOne) != isBelow {
			t.Errorf("Exp(%v) = %v, %d", v, got, e)
		}
	}
}

// TestShow checks P7.10.
func TestShow(t *testing.T) {
	for _, text := range []string{"0", "5", "-5", "2147483647", "-2147483647", "0.0", "2.5", "-0.1", "16777216.0", "7.0e-46", "1.0e10", "true", "false"} {
		got, e := value.Show(val(text))
		if got != text || e != api.OK {
			t.Errorf("Show of %s = %q, %d", text, got, e)
		}
		v, e := value.Read(text)
		wantOutcome(t, "Read of "+text, v, e, text)
	}
}

// TestRead checks P7.10: texts of no value.
func TestRead(t *testing.T) {
	for _, text := range []string{"", " ", "-", "+", "-0", "+5", "05", "00", "-05", " 5", "5 ", "5\n", "5,0", "0x5", "- 5", "--5", "2147483648", "-2147483648", "99999999999999999999", "1.50", "1.", ".5", "0.10", "01.5", "-0.0", "+1.5", "0.00", "1e5", "1.0e5", "1.0e+10", "1.0e010", "10.0e9", "1.0E10", "1e10",
		"0.1e-3", "-1.0e-0", "1.0e60", "-1.0e60", "1.0e-60", "7.006492321624085e-46", "0.33333333", "2147483647.0", "16777217.0", "True", "TRUE", "true ", " false", "truefalse", "t", "nan", "inf", "\x00", "5\x00", "٥", strings.Repeat("9", 70), strings.Repeat("1", 1<<20), "true\n", "begin"} {
		v, e := value.Read(text)
		wantOutcome(t, "Read of "+text[:min(len(text), 30)], v, e, "ErrForm")
	}
}

// TestWrite checks P7.10 by the chapter's examples, and errors.
func TestWrite(t *testing.T) {
	for _, x := range []struct {
		kind    int
		v, want string
		e       api.Errno
	}{
		{api.TyInt, "2.5", "3\n", api.OK}, {api.TyReal, "3", "3.0\n", api.OK}, {api.TyBool, "true", "true\n", api.OK}, {api.TyBool, "false", "false\n", api.OK}, {api.TyInt, "-7", "-7\n", api.OK}, {api.TyReal, "1.0e-10", "1.0e-10\n", api.OK}, {api.TyReal, "16777217", "16777216.0\n", api.OK},
		{api.TyInt, "1.0e10", "", api.ErrRange}, {api.TyInt, "true", "", api.ErrType}, {api.TyReal, "false", "", api.ErrType}, {api.TyBool, "0", "", api.ErrType}, {0, "0", "", api.ErrArg}, {4, "true", "", api.ErrArg},
	} {
		if got, e := value.Write(x.kind, val(x.v)); got != x.want || e != x.e {
			t.Errorf("Write(%d, %s) = %q, %d; want %q, %d", x.kind, x.v, got, e, x.want, x.e)
		}
	}
}

// TestResult checks P7.11 for all operators and types: a row has the results for the types integer, real and boolean of the second operand, for each type of the first one; i, r and b are these types, ? is TyNone, and - is ErrType.
func TestResult(t *testing.T) {
	rows := map[int]string{
		api.OpAdd: "ir- rr- ---", api.OpSub: "ir- rr- ---", api.OpMul: "ir- rr- ---", api.OpDiv: "rr- rr- ---", api.OpQuo: "i-- --- ---", api.OpPow: "?-- r-- ---",
		api.OpLt: "bb- bb- ---", api.OpLe: "bb- bb- ---", api.OpEq: "bb- bb- ---", api.OpNe: "bb- bb- ---", api.OpGe: "bb- bb- ---", api.OpGt: "bb- bb- ---",
		api.OpAnd: "--- --- --b", api.OpOr: "--- --- --b", api.OpImp: "--- --- --b", api.OpEqv: "--- --- --b",
	}
	expect := func(op, a, b int, want byte) {
		t.Helper()
		kind, err := strings.IndexByte("?irb", want), api.OK
		if want == '-' {
			kind, err = 0, api.ErrType
		}
		if got, e := value.Result(op, a, b); got != kind || e != err {
			t.Errorf("Result(%d, %d, %d) = %d, %d; want %c", op, a, b, got, e, want)
		}
	}
	for op, row := range rows {
		for a, column := range strings.Fields(row) {
			for b := range column {
				expect(op, a+1, b+1, column[b])
			}
		}
	}
	for a := range types() {
		expect(api.OpNeg, a+1, api.TyNone, "ir-"[a])
		expect(api.OpNot, a+1, api.TyNone, "--b"[a])
	}
}

// TestTrap checks P7.12.
func TestTrap(t *testing.T) {
	for e := api.Errno(-20); e < 50; e++ {
		want := api.TrCode
		switch e {
		case 0:
			want = 0
		case 3:
			want = 2
		case 5:
			want = 3
		case 10:
			want = 5
		case 11:
			want = 6
		}
		if got := value.Trap(e); got != want {
			t.Errorf("Trap(%d) = %d; want %d", e, got, want)
		}
	}
	for _, e := range []api.Errno{-1 << 63, 1<<63 - 1, 1 << 32, 1<<32 + 3} {
		if got := value.Trap(e); got != api.TrCode {
			t.Errorf("Trap(%d) = %d", e, got)
		}
	}
}
