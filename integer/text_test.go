package integer_test

import (
	"strings"
	"testing"

	"manorboy/api"
	"manorboy/integer"
)

// P1.1, I9.
func TestParse(t *testing.T) {
	zeros := strings.Repeat("0", 1000)
	for _, x := range []struct {
		text string
		want int
		e    api.Errno
	}{
		{"0", 0, api.OK}, {"7", 7, api.OK}, {"+7", 7, api.OK}, {"-7", -7, api.OK}, {"1234567890", 1234567890, api.OK},
		{"+007", 7, api.OK}, {"-0", 0, api.OK}, {"+0", 0, api.OK}, {"-000", 0, api.OK}, {"-0010", -10, api.OK},
		{"2147483646", most - 1, api.OK}, {"2147483647", most, api.OK}, {"+2147483647", most, api.OK}, {"-2147483647", -most, api.OK},
		{zeros, 0, api.OK}, {"-" + zeros + "2147483647", -most, api.OK}, {zeros + "2147483648", 0, api.ErrRange},
		{"2147483648", 0, api.ErrRange}, {"-2147483648", 0, api.ErrRange}, {"2147483650", 0, api.ErrRange}, {"3000000000", 0, api.ErrRange},
		{"4294967295", 0, api.ErrRange}, {"4294967296", 0, api.ErrRange}, {"4294967297", 0, api.ErrRange}, {"21474836470", 0, api.ErrRange},
		{"9223372036854775807", 0, api.ErrRange}, {"-9223372036854775808", 0, api.ErrRange}, {"9223372036854775808", 0, api.ErrRange},
		{"18446744073709551615", 0, api.ErrRange}, {"18446744073709551616", 0, api.ErrRange}, {"18446744073709551617", 0, api.ErrRange},
		{"-36893488147419103233", 0, api.ErrRange}, {strings.Repeat("9", 1000), 0, api.ErrRange}, {"1" + zeros, 0, api.ErrRange},
	} {
		wantParse(t, x.text, x.want, x.e)
	}
}

// P1.1, I9: another form is the first error, even where the digits would be out of range.
func TestParseForm(t *testing.T) {
	for _, text := range []string{
		"", "+", "-", "+-1", "-+1", "--1", "++1", "1-", "1+", "1 ", " 1", "- 1", "+ 1", "1 2", "1\n", "\t1", "\x001", "1\x00",
		"1.0", "1.", ".1", "1,0", "1_000", "1e3", "0x10", "0b1", "1a", "a", "A1", "/", ":", "1/", "1:", "٣", "１", "1\xff", "\xb2",
		"2147483648 ", "99999999999999999999x", "x99999999999999999999", "99999999999999999999-", "+99999999999999999999+",
		"99999999999 99999999999", "-" + strings.Repeat("9", 1000) + ".",
	} {
		wantParse(t, text, 0, api.ErrForm)
	}
	for b := range 256 {
		digit := b >= '0' && b <= '9'
		text := string([]byte{byte(b)})
		for _, s := range []string{text, "-" + text, "0" + text} {
			if _, e := integer.Parse(s); (e == api.OK) != digit {
				t.Errorf("Parse(%q): error %d", s, e)
			}
		}
	}
}

func wantParse(t *testing.T, text string, want int, wantErr api.Errno) {
	t.Helper()
	if n, e := integer.Parse(text); n != want || e != wantErr {
		t.Errorf("Parse(%.40q) = %d, %d; want %d, %d", text, n, e, want, wantErr)
	}
}

// P1.1, I10.
func TestPrint(t *testing.T) {
	for _, x := range []struct {
		n    int
		want string
	}{
		{0, "0"}, {5, "5"}, {-15, "-15"}, {10, "10"}, {100, "100"}, {-1000000000, "-1000000000"}, {most, "2147483647"}, {-most, "-2147483647"},
	} {
		if s, e := integer.Print(x.n); s != x.want || e != api.OK {
			t.Errorf("Print(%d) = %q, %d", x.n, s, e)
		}
	}
	for _, n := range edgeInts() {
		if s, e := integer.Print(n); s != bigOf(n).String() || e != api.OK {
			t.Errorf("Print(%d) = %q, %d", n, s, e)
		}
	}
	for _, n := range badInts() {
		if s, e := integer.Print(n); s != "" || e != api.ErrArg {
			t.Errorf("Print(%d) = %q, %d", n, s, e)
		}
	}
}
