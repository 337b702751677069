package real_test

import (
	"math"
	"math/big"
	"regexp"
	"strconv"
	"strings"
	"testing"

	"manorboy/api"
	"manorboy/real"
)

func wantParse(t *testing.T, s string, want api.Real, wantErr api.Errno) {
	t.Helper()
	x, e := real.Parse(s)
	wantReal(t, "Parse", x, e, want, wantErr, s)
}

func wantPrint(t *testing.T, x api.Real, want string) {
	t.Helper()
	if s, e := real.Print(x); s != want || e != api.OK {
		t.Errorf("Print(%v) = %q, %d; want %q", x, s, e, want)
	}
}

// P2.8: the examples, and ordinary strings.
func TestParse(t *testing.T) {
	for _, x := range []struct {
		s    string
		want api.Real
		e    api.Errno
	}{
		{"0.1", api.Real{Man: 13421773, Exp: -27}, api.OK}, {"1e60", zero, api.ErrRange}, {"1e-60", zero, api.OK}, {"1.", zero, api.ErrForm},
		{"0", zero, api.OK}, {"-0", zero, api.OK}, {"-0.0", zero, api.OK}, {"00.00e+00", zero, api.OK}, {"1", one, api.OK}, {"-1", negated(one), api.OK}, {"1.0", one, api.OK},
		{"001.000", one, api.OK}, {"10e-1", one, api.OK}, {"0.1e1", one, api.OK}, {"0.1e+1", one, api.OK}, {"0.001e003", one, api.OK}, {"1e0", one, api.OK}, {"1e-0", one, api.OK}, {"1e+0", one, api.OK},
		{"2.5", exactly(t, 5, -1), api.OK}, {"-2.5", exactly(t, -5, -1), api.OK}, {"123456", exactly(t, 123456, 0), api.OK}, {"1e10", exactly(t, 9765625, 10), api.OK}, {"-25e-2", exactly(t, -1, -2), api.OK},
		{"7.0e-46", least, api.OK}, {"-7e-46", negated(least), api.OK}, {"3e-46", zero, api.OK}, {"4e-46", least, api.OK}, {"9.9e-47", zero, api.OK}, {"1e-46", zero, api.OK}, {"1e-45", least, api.OK},
		{"2e52", must(nearest(decimalOf("2", 52))), api.OK}, {"3e52", zero, api.ErrRange}, {"1e53", zero, api.ErrRange}, {"-1e53", zero, api.ErrRange}, {"9.9e51", must(nearest(decimalOf("99", 50))), api.OK},
		{"0.5", exactly(t, 1, -1), api.OK}, {"0.5" + strings.Repeat("0", 56) + "1", exactly(t, 1, -1), api.OK},
	} {
		wantParse(t, x.s, x.want, x.e)
	}
}

// decimalOf is the number digits * 10^exponent.
func decimalOf(digits string, exponent int) *big.Rat {
	q, ok := new(big.Rat).SetString(digits + "e" + strconv.Itoa(exponent))
	if !ok {
		panic(digits)
	}
	return q
}

// P2.8: all short strings over the bytes that matter, against the form as it is written there.
func TestParseForm(t *testing.T) {
	form := regexp.MustCompile(`^-?[0-9]+(\.[0-9]+)?(e[-+]?[0-9]+)?$`)
	level := []string{""}
	for range 7 {
		var longer []string
		for _, s := range level {
			wantForm(t, s, form.MatchString(s))
			for _, c := range "03-+.e" {
				longer = append(longer, s+string(c))
			}
		}
		level = longer
	}
	for b := range 256 {
		c := string([]byte{byte(b)})
		for _, s := range []string{c, c + "1", "1" + c, "1" + c + "1", "1.0" + c, "1.0" + c + "1", "1e" + c + "1", "1e1" + c} {
			wantForm(t, s, form.MatchString(s))
		}
	}
	for _, s := range []string{"+1", " 1", "1 ", "1,5", "1E5", "e5", "0x1", "1_0", "Inf", "NaN", "1.5.2", "1e5e5", "1e5.0", "1\n", "\x001", "1\x00", "١", "1e", "1e+", "1.e5", ".5", "--1", "-"} {
		wantParse(t, s, zero, api.ErrForm)
	}
}

// wantForm checks that Parse takes a string for numeric, or not.
func wantForm(t *testing.T, s string, numeric bool) {
	t.Helper()
	if x, e := real.Parse(s); numeric != (e != api.ErrForm) || e != api.OK && x != zero {
		t.Errorf("Parse(%q) = %v, %d; numeric: %t", s, x, e, numeric)
	}
}

// P2.8: the length, which is the first thing that counts.
func TestParseLength(t *testing.T) {
	for _, x := range []struct {
		s    string
		want api.Real
		e    api.Errno
	}{
		{strings.Repeat("0", 59) + "1", one, api.OK}, {strings.Repeat("0", 60) + "1", zero, api.ErrForm}, {"1." + strings.Repeat("0", 58), one, api.OK}, {"1." + strings.Repeat("0", 59), zero, api.ErrForm},
		{"-" + strings.Repeat("0", 58) + "1", negated(one), api.OK}, {"-" + strings.Repeat("0", 59) + "1", zero, api.ErrForm}, {strings.Repeat("9", 60), zero, api.ErrRange}, {strings.Repeat("9", 61), zero, api.ErrForm},
		{"1e" + strings.Repeat("0", 57) + "1", must(nearest(decimalOf("1", 1))), api.OK}, {"1e-" + strings.Repeat("0", 56) + "1", must(nearest(decimalOf("1", -1))), api.OK}, {"1e" + strings.Repeat("0", 59), zero, api.ErrForm},
		{strings.Repeat("x", 61), zero, api.ErrForm},
	} {
		wantParse(t, x.s, x.want, x.e)
	}
}

// P2.8: exponents of any size.
func TestParseExponents(t *testing.T) {
	nines := strings.Repeat("9", 50)
	for _, far := range []string{"54", "99", "100", "999", "1000", "1001", "9999", "65536", "4294967296", "9223372036854775807", "9223372036854775808", "18446744073709551616", "18446744073709551617", nines} {
		wantParse(t, "1e"+far, zero, api.ErrRange)
		wantParse(t, "-1e+"+far, zero, api.ErrRange)
		wantParse(t, "1e-"+far, zero, api.OK)
		wantParse(t, "-1e-"+far, zero, api.OK)
		wantParse(t, "0e"+far, zero, api.OK)
		wantParse(t, "-0.0e"+far, zero, api.OK)
		wantParse(t, "0e-"+far, zero, api.OK)
	}
	for exponent := 53; exponent < 1100; exponent++ {
		wantParse(t, "1e"+strconv.Itoa(exponent), zero, api.ErrRange)
		wantParse(t, "-7.5e"+strconv.Itoa(exponent), zero, api.ErrRange)
		wantParse(t, nines+"e-"+strconv.Itoa(exponent+43), zero, api.OK)
	}
	for zeros := 1; zeros <= 53; zeros++ {
		shift := strconv.Itoa(zeros)
		small := "0." + strings.Repeat("0", zeros-1) + "1"
		wantParse(t, small+"e"+shift, one, api.OK)
		wantParse(t, "1"+strings.Repeat("0", zeros)+"e-"+shift, one, api.OK)
		wantParse(t, "-0"+small[1:]+"e+"+shift, negated(one), api.OK)
		if zeros >= 46 {
			wantParse(t, small, zero, api.OK)
		}
	}
	wantParse(t, strings.Repeat("1", 57)+"e-9", must(nearest(decimalOf(strings.Repeat("1", 57), -9))), api.OK)
	wantParse(t, strings.Repeat("9", 56)+"e-98", must(nearest(decimalOf(strings.Repeat("9", 56), -98))), api.OK)
	wantParse(t, strings.Repeat("9", 55)+"e-101", zero, api.OK)
	wantParse(t, strings.Repeat("9", 55)+"e-100", least, api.OK)
}

// P2.8: integers that are in the middle between two reals, and those next to them. All of them fit into a string.
func TestParseTies(t *testing.T) {
	for exp := 1; exp <= api.MaxExp; exp++ {
		for _, man := range []int64{low, low + 1, low + 2, 12345677, 12345678, high - 1, high} {
			middle := new(big.Int).Lsh(big.NewInt(2*man+1), uint(exp-1))
			for d := int64(-1); d <= 1; d++ {
				n := new(big.Int).Add(middle, big.NewInt(d))
				want, wantErr := nearest(new(big.Rat).SetInt(n))
				wantParse(t, n.String(), want, wantErr)
				wantParse(t, "-"+n.String(), negated(want), wantErr)
			}
		}
	}
	wantParse(t, "16777217", exactly(t, 1, 24), api.OK)
	wantParse(t, "16777217."+strings.Repeat("0", 50)+"1", exactly(t, 1<<23+1, 1), api.OK)
	wantParse(t, "16777216."+strings.Repeat("9", 51), exactly(t, 1, 24), api.OK)
	tooGreat := new(big.Int).Lsh(big.NewInt(2*high+1), 149)
	wantParse(t, tooGreat.String(), zero, api.ErrRange)
	wantParse(t, new(big.Int).Sub(tooGreat, big.NewInt(1)).String(), greatest, api.OK)
	wantParse(t, new(big.Int).Sub(tooGreat, big.NewInt(1)).String()+".99999", greatest, api.OK)
}

// P2.8: fractions just below and just above the middle between two reals, to as many digits as fit.
func TestParseNearTies(t *testing.T) {
	for exp := -150; exp < 0; exp++ {
		for _, man := range []int64{0, 1, 2, low - 1, low, low + 1, 12345677, high} {
			if man < low && exp > api.MinExp {
				continue
			}
			middle := scaled(big.NewRat(2*man+1, 2), exp)
			shift := 60
			for down(new(big.Rat).Mul(middle, decimalOf("1", shift))).BitLen() < 175 {
				shift++
			}
			n := down(new(big.Rat).Mul(middle, decimalOf("1", shift)))
			for d := int64(-1); d <= 2; d++ {
				digits := new(big.Int).Add(n, big.NewInt(d)).String()
				if len(digits) > 55 {
					digits = digits[:55]
				}
				cut := len(n.String()) - len(digits)
				want, wantErr := nearest(decimalOf(digits, cut-shift))
				wantParse(t, digits+"e"+strconv.Itoa(cut-shift), want, wantErr)
			}
		}
	}
}

// P2.9: the examples.
func TestPrintExamples(t *testing.T) {
	wantPrint(t, api.Real{Man: 13421773, Exp: -27}, "0.1")
	wantPrint(t, api.Real{Man: 11184811, Exp: -25}, "0.33333334")
	wantPrint(t, real.FromInt(16777216), "16777216.0")
	wantPrint(t, least, "7.0e-46")
	wantPrint(t, real.FromInt(10000000000), "1.0e10")
	wantPrint(t, zero, "0.0")
	wantPrint(t, greatest, "2.3945241e52")
	wantPrint(t, negated(greatest), "-2.3945241e52")
	wantPrint(t, negated(least), "-7.0e-46")
}

// P2.9: where the point stands, and where there is an exponent.
func TestPrintNotation(t *testing.T) {
	for _, x := range [][2]string{
		{"1", "1.0"}, {"-1", "-1.0"}, {"10", "10.0"}, {"12", "12.0"}, {"1.5", "1.5"}, {"12.5", "12.5"}, {"-120.25", "-120.25"}, {"100", "100.0"}, {"1234567", "1234567.0"},
		{"123456790", "123456790.0"}, {"100000000", "100000000.0"}, {"999999940", "999999940.0"}, {"900000000", "900000000.0"}, {"1000000000", "1.0e9"}, {"1234567900", "1.234568e9"}, {"1234567800", "1.2345678e9"}, {"-1.5e9", "-1.5e9"},
		{"1e20", "1.0e20"}, {"12e20", "1.2e21"}, {"0.5", "0.5"}, {"0.25", "0.25"}, {"0.1", "0.1"}, {"0.01", "0.01"}, {"0.001", "0.001"}, {"0.0001", "0.0001"}, {"-0.00012345", "-0.00012345"}, {"0.000999", "0.000999"},
		{"0.00001", "1.0e-5"}, {"0.000099", "9.9e-5"}, {"0.00009999999", "9.999999e-5"}, {"-0.00001", "-1.0e-5"}, {"1.25e-9", "1.25e-9"}, {"1e-10", "1.0e-10"}, {"1.5e-30", "1.5e-30"}, {"16777215", "16777215.0"}, {"8388607.5", "8388607.5"},
	} {
		wantPrint(t, must(real.Parse(x[0])), x[1])
	}
}

// shortestOf is D and k of P2.9 for a real above 0, by looking at all numbers with few digits that are near.
func shortestOf(x api.Real) (digits string, k int) {
	q := exactOf(x)
	k = -60
	for decimalOf("1", k).Cmp(q) <= 0 {
		k++
	}
	for length := 1; ; length++ {
		var best *big.Int
		bestK := 0
		var bestError *big.Rat
		for shift := -1; shift <= 1; shift++ {
			unit := decimalOf("1", k+shift-length)
			n := down(new(big.Rat).Quo(q, unit))
			n.Sub(n, big.NewInt(1))
			for range 4 {
				if s := n.String(); n.Sign() > 0 && len(s) == length && s[length-1] != '0' {
					number := new(big.Rat).Mul(unit, new(big.Rat).SetInt(n))
					off := new(big.Rat).Sub(number, q)
					off.Abs(off)
					if y, e := nearest(number); e == api.OK && y == x {
						if best == nil || off.Cmp(bestError) < 0 || off.Cmp(bestError) == 0 && n.Bit(0) == 0 {
							best, bestK, bestError = new(big.Int).Set(n), k+shift, off
						}
					}
				}
				n.Add(n, big.NewInt(1))
			}
		}
		if best != nil {
			return best.String(), bestK
		}
	}
}

// layout is the string of 0.digits * 10^k as P2.9 puts it, by moving the point of the digits with zeros on both sides.
func layout(digits string, k int) string {
	exponent := ""
	if k < -3 || k > 9 {
		exponent = "e" + strconv.Itoa(k-1)
		k = 1
	}
	zeros := strings.Repeat("0", 12)
	all := zeros + digits + zeros
	whole := strings.TrimLeft(all[:12+k], "0")
	fraction := strings.TrimRight(all[12+k:], "0")
	if whole == "" {
		whole = "0"
	}
	if fraction == "" {
		fraction = "0"
	}
	return whole + "." + fraction + exponent
}

// P2.9, against its definition.
func TestPrintShortest(t *testing.T) {
	l := append(edgeReals(), mixedReals(13, 600)...)
	for exp := api.MinExp; exp <= api.MaxExp; exp++ {
		l = append(l, api.Real{Man: low, Exp: exp})
	}
	for man := 1; man <= 120; man++ {
		l = append(l, api.Real{Man: man, Exp: api.MinExp})
	}
	for i := range 60 {
		l = append(l, api.Real{Man: low + 104729*i, Exp: -2}, api.Real{Man: low + 104729*i, Exp: -1 - i%5})
	}
	for _, x := range l {
		if x.Man > 0 {
			digits, k := shortestOf(x)
			wantPrint(t, x, layout(digits, k))
			wantPrint(t, negated(x), "-"+layout(digits, k))
		}
	}
}

// P2.9: two numbers with as few digits that are equally near.
func TestPrintTies(t *testing.T) {
	for _, x := range []struct {
		man, exp int
		want     string
	}{
		{2097152*4 + 1, -2, "2097152.2"}, {2097152*4 + 3, -2, "2097152.8"}, {3000000*4 + 1, -2, "3000000.2"}, {3000000*4 + 3, -2, "3000000.8"}, {3000001*4 + 1, -2, "3000001.2"},
		{4194303*4 + 3, -2, "4194303.8"}, {2097152*4 + 2, -2, "2097152.5"}, {2097152 * 4, -2, "2097152.0"},
	} {
		wantPrint(t, exactly(t, x.man, x.exp), x.want)
		wantPrint(t, exactly(t, -x.man, x.exp), "-"+x.want)
	}
}

// P2.9: a real whose lower neighbour is nearer than its upper one, so that the nearest number with some digits is not rounded to it, but the next one is.
func TestPrintPowersOfTwo(t *testing.T) {
	seen := 0
	for exp := api.MinExp + 1; exp <= api.MaxExp; exp++ {
		x := api.Real{Man: low, Exp: exp}
		digits, k := shortestOf(x)
		unit := decimalOf("1", k-len(digits))
		places := new(big.Rat).Quo(exactOf(x), unit)
		near := down(places.Add(places, big.NewRat(1, 2)))
		if near.String() != digits {
			seen++
			wantPrint(t, x, layout(digits, k))
		}
	}
	if seen == 0 {
		t.Error("no such real")
	}
}

// P2.9: where the formats agree, the digits are those of the standard library.
func TestPrintAgainstLibrary(t *testing.T) {
	for i, x := range mixedReals(14, 60000) {
		x.Man, x.Exp = max(x.Man, -x.Man)|low, i%200-120
		mantissa, exponent, _ := strings.Cut(strconv.FormatFloat(math.Ldexp(float64(x.Man), x.Exp), 'e', -1, 32), "e")
		shift, _ := strconv.Atoi(exponent)
		wantPrint(t, x, layout(strings.Replace(mantissa, ".", "", 1), shift+1))
	}
}
