package lex_test

import (
	"math"
	"math/rand"
	"slices"
	"strconv"
	"strings"
	"testing"

	"manorboy/api"
	"manorboy/lex"
	"manorboy/real"
)

// validTokens are valid ones of each kind, at the edges of what is valid.
func validTokens() []api.Token {
	l := list(name("x"), name("a1"), name("abcdefghijklmnop"), name("comments"), name("end1"), whole(0), whole(7), whole(api.MaxInt), number(api.Real{}), number(real.FromInt(1)),
		number(api.Real{Man: 1, Exp: api.MinExp}), number(api.Real{Man: 1<<24 - 1, Exp: api.MaxExp}), number(api.Real{Man: 1 << 23, Exp: api.MinExp}),
		quoted(""), quoted(" "), quoted("~!#"), quoted("comment"), quoted("end"), quoted(";"), quoted("1"), quoted(strings.Repeat("s", 80)))
	for _, w := range reservedWords() {
		if w != "comment" {
			l = append(l, word(w))
		}
	}
	for _, s := range signTexts() {
		l = append(l, sign(s))
	}
	return l
}

// invalidTokens are tokens that each lack something to be valid.
func invalidTokens() []api.Token {
	one := real.FromInt(1)
	l := list(api.Token{}, word("comment"), word(""), word("x"), word("Begin"), word("begin "), word("+"), word("1"), name(""), name("1"), name("1x"), name("X"), name("x y"), name("x "), name("begin"), name("comment"), name("abcdefghijklmnopq"), name("é"), name("+"),
		whole(-1), whole(api.MaxInt+1), whole(math.MaxInt), whole(math.MinInt), whole(-api.MaxInt), number(api.Real{Man: -1 << 23, Exp: -23}), number(api.Real{Man: -1, Exp: api.MinExp}), number(api.Real{Man: 1}), number(api.Real{Exp: 1}), number(api.Real{Man: 1 << 24}),
		number(api.Real{Man: 1 << 23, Exp: api.MaxExp + 1}), number(api.Real{Man: 1 << 23, Exp: api.MinExp - 1}), number(api.Real{Man: math.MinInt}), number(api.Real{Exp: math.MinInt}), quoted("\""), quoted("a\"b"), quoted("\n"), quoted("a\x1f"), quoted("\x7f"), quoted("é"), quoted("\x00"),
		quoted(strings.Repeat("s", 81)), quoted(strings.Repeat("s", 1000)), sign(""), sign("x"), sign("."), sign("$"), sign("+ "), sign("++"), sign("\""), sign("begin"), sign("///"), sign("=:"), sign("<>"),
		api.Token{Kind: api.TkInt, Text: "7", N: 7}, api.Token{Kind: api.TkInt, N: 7, Real: one}, api.Token{Kind: api.TkInt, N: 7, Real: api.Real{Exp: 1}}, api.Token{Kind: api.TkReal, Text: "1.0", Real: one}, api.Token{Kind: api.TkReal, N: 1, Real: one}, api.Token{Kind: api.TkReal, N: 1})
	for _, t := range validTokens() {
		if t.Text == "" {
			continue
		}
		for _, kind := range []int{0, 7, -1, 8, 256 + api.TkSign, math.MaxInt, math.MinInt, t.Kind + 6, -t.Kind} {
			l = append(l, api.Token{Kind: kind, Text: t.Text})
		}
		l = append(l, api.Token{Kind: t.Kind, Text: t.Text, N: 1}, api.Token{Kind: t.Kind, Text: t.Text, N: -1}, api.Token{Kind: t.Kind, Text: t.Text, Real: one}, api.Token{Kind: t.Kind, Text: t.Text, Real: api.Real{Exp: 1}})
	}
	return l
}

// P3.1, L12: At and End can be any integers.
func TestValid(t *testing.T) {
	for _, x := range []struct {
		tokens []api.Token
		want   bool
	}{{validTokens(), true}, {invalidTokens(), false}} {
		for _, token := range x.tokens {
			for _, offsets := range [][2]int{{0, 0}, {3, 7}, {7, 3}, {-1, -5}, {math.MinInt, math.MaxInt}, {math.MaxInt, math.MinInt}} {
				if token = placed(offsets[0], offsets[1], token); lex.Valid(token) != x.want {
					t.Errorf("Valid(%+v) = %t", token, !x.want)
				}
			}
		}
	}
}

// P3.1, L12: the bytes of strings, and the kinds that a text can have.
func TestValidTexts(t *testing.T) {
	for b := range 256 {
		s := string([]byte{byte(b)})
		if want := 32 <= b && b <= 126 && b != 34; lex.Valid(quoted(s)) != want || lex.Valid(quoted("ab"+s+"c")) != want {
			t.Errorf("Valid of the string %q is not %t", s, want)
		}
		if want := 'a' <= b && b <= 'z'; lex.Valid(name(s)) != want {
			t.Errorf("Valid of the name %q = %t", s, !want)
		}
		if want := slices.Contains(signTexts(), s); lex.Valid(sign(s)) != want {
			t.Errorf("Valid of the sign %q = %t", s, !want)
		}
	}
	for _, token := range validTokens() {
		s := token.Text
		if s == "" {
			continue
		}
		isWord := slices.Contains(reservedWords(), s) && s != "comment"
		if lex.Valid(word(s)) != isWord || lex.Valid(sign(s)) != slices.Contains(signTexts(), s) || !lex.Valid(quoted(s)) {
			t.Errorf("Valid of %q as a word, a sign or a string", s)
		}
	}
}

// wantCheck compares Check of tokens with this error, and Print too, if it is one.
func wantCheck(t *testing.T, l []api.Token, want api.Errno, wantAt int) {
	t.Helper()
	if e, at := lex.Check(l); e != want || at != wantAt {
		t.Errorf("Check(%s) = %d, %d; want %d, %d", few(l), e, at, want, wantAt)
	}
	if want == api.OK {
		return
	}
	if s, e, at := lex.Print(l); s != "" || e != want || at != wantAt {
		t.Errorf("Print(%s) = %.100q, %d, %d; want error %d at %d", few(l), s, e, at, want, wantAt)
	}
}

// P3.1, L13 and L14: the first token that is not valid.
func TestCheckOfTokens(t *testing.T) {
	wantCheck(t, nil, api.OK, 0)
	wantCheck(t, []api.Token{}, api.OK, 0)
	x := name("x")
	for _, token := range validTokens() {
		wantCheck(t, list(token), api.OK, 0)
		wantCheck(t, list(x, sign(";"), token), api.OK, 0)
		wantCheck(t, list(placed(-3, 9, token), sign(";"), placed(5, 2, token)), api.OK, 0)
	}
	for _, token := range invalidTokens() {
		wantCheck(t, list(token), api.ErrForm, 0)
		wantCheck(t, list(x, x, token, x), api.ErrForm, 2)
		wantCheck(t, list(x, token, token), api.ErrForm, 1)
		wantCheck(t, list(x, word("end"), token), api.ErrForm, 2)
		wantCheck(t, list(token, word("end"), x), api.ErrForm, 0)
	}
}

// P3.1, L13 and L14: what can follow the word end.
func TestCheckBehindEnd(t *testing.T) {
	end, x := word("end"), name("x")
	wantCheck(t, list(end, x), api.ErrForm, 1)
	for _, token := range validTokens() {
		want, at := api.ErrForm, 3
		if token == sign(";") || token == end || token == word("else") {
			want, at = api.OK, 0
		}
		wantCheck(t, list(x, x, end, token), want, at)
		wantCheck(t, list(x, x, placed(8, 1, end), placed(4, 4, token), end), want, at)
		wantCheck(t, list(end, sign(";"), token), api.OK, 0)
		wantCheck(t, list(end, word("else"), token), api.OK, 0)
		wantCheck(t, list(quoted("end"), token), api.OK, 0)
		wantCheck(t, list(name("end1"), token), api.OK, 0)
	}
	wantCheck(t, list(end, end, end, sign(";"), end, word("else"), x, end), api.OK, 0)
	wantCheck(t, list(end, end, x), api.ErrForm, 2)
	wantCheck(t, list(end, quoted(";")), api.ErrForm, 1)
	wantCheck(t, list(end, quoted("end")), api.ErrForm, 1)
	wantCheck(t, list(end, quoted("else")), api.ErrForm, 1)
	wantCheck(t, list(end, x, word("comment")), api.ErrForm, 1)
	wantCheck(t, list(end, sign(";"), x, end, x, end, x), api.ErrForm, 4)
}

// P3.1, L13 and L14: the number of tokens comes first.
func TestCheckOfManyTokens(t *testing.T) {
	l := slices.Repeat(list(name("x")), api.MaxTokens+1)
	wantCheck(t, l[:api.MaxTokens], api.OK, 0)
	wantCheck(t, l, api.ErrLimit, 0)
	text, e, at := lex.Print(l[:api.MaxTokens])
	if text != strings.Repeat("x ", api.MaxTokens)[:2*api.MaxTokens-1] || e != api.OK || at != 0 {
		t.Errorf("Print of %d tokens: %d bytes, error %d at %d", api.MaxTokens, len(text), e, at)
	}
	l[3] = api.Token{}
	wantCheck(t, l[:api.MaxTokens], api.ErrForm, 3)
	wantCheck(t, l, api.ErrLimit, 0)
	l[3] = name("x")
	l[api.MaxTokens] = api.Token{}
	wantCheck(t, l, api.ErrLimit, 0)
	l[api.MaxTokens-1] = api.Token{}
	wantCheck(t, l[:api.MaxTokens], api.ErrForm, api.MaxTokens-1)
}

// wantPrint compares Print of tokens with this text.
func wantPrint(t *testing.T, l []api.Token, want string) {
	t.Helper()
	if s, e, at := lex.Print(l); s != want || e != api.OK || at != 0 {
		t.Errorf("Print(%s) = %.100q, %d, %d; want %.100q", few(l), s, e, at, want)
	}
}

// P3.1, L14.
func TestPrint(t *testing.T) {
	wantPrint(t, nil, "")
	wantPrint(t, list(word("if"), whole(7), quoted("a")), `if 7 "a"`)
	wantPrint(t, list(whole(0), whole(api.MaxInt), number(api.Real{}), number(real.FromInt(150))), "0 2147483647 0.0 150.0")
	wantPrint(t, list(quoted(""), quoted(" ; "), quoted("end")), `"" " ; " "end"`)
	wantPrint(t, list(placed(7, 3, name("x")), placed(-1, 0, sign(":=")), placed(0, 0, name("y1")), sign(","), sign("["), sign("//"), sign(";")), "x := y1 , [ // ;")
	wantPrint(t, list(word("begin"), word("end"), word("else"), word("end"), sign(";"), name("x")), "begin end else end ; x")
	for text, x := range map[string]api.Real{"1.0e10": {Man: 9765625, Exp: 10}, "7.0e-46": {Man: 1, Exp: api.MinExp}, "2.3945241e52": {Man: 1<<24 - 1, Exp: api.MaxExp}, "0.1": {Man: 13421773, Exp: -27}, "6.1035156e-5": {Man: 1 << 23, Exp: -37}} {
		wantPrint(t, list(number(x)), text)
		wantPrint(t, list(sign("-"), number(x), word("step")), "- "+text+" step")
	}
	for _, token := range validTokens() {
		text := token.Text
		switch token.Kind {
		case api.TkInt:
			text = strconv.Itoa(token.N)
		case api.TkReal:
			text, _ = real.Print(token.Real)
		case api.TkString:
			text = `"` + text + `"`
		}
		wantPrint(t, list(token), text)
		wantPrint(t, list(name("x"), token), "x "+text)
	}
}

// P3.1, L14: the length of the text, to the byte; an error of Check comes first.
func TestPrintOfLongTexts(t *testing.T) {
	long := quoted(strings.Repeat("s", 80))
	n, rest := api.MaxSource/83, api.MaxSource%83
	l := slices.Repeat(list(long), n)
	for _, x := range []struct{ length, more int }{{rest - 2, 0}, {rest - 3, 0}, {rest - 1, 1}, {rest, 2}, {80, 82 - rest}} {
		tokens := append(slices.Clone(l), quoted(strings.Repeat("t", x.length)))
		text, e, at := lex.Print(tokens)
		switch {
		case x.more > 0 && (text != "" || e != api.ErrLimit || at != 0):
			t.Errorf("Print of a text that is %d bytes too long: %d bytes, error %d at %d", x.more, len(text), e, at)
		case x.more == 0 && (len(text) != 83*n+2+x.length || e != api.OK || at != 0):
			t.Errorf("Print of a text of %d bytes: %d bytes, error %d at %d", 83*n+2+x.length, len(text), e, at)
		}
		wantCheck(t, tokens, api.OK, 0)
		wantCheck(t, append(tokens, long, word("comment")), api.ErrForm, n+2)
	}
	full := append(slices.Clone(l), quoted(strings.Repeat("t", rest-2)), sign(";"))
	if text, e, at := lex.Print(full); text != "" || e != api.ErrLimit || at != 0 {
		t.Errorf("Print of a text that is 2 bytes too long: %d bytes, error %d at %d", len(text), e, at)
	}
	if text, e, at := lex.Print(slices.Repeat(list(long), api.MaxTokens)); text != "" || e != api.ErrLimit || at != 0 {
		t.Errorf("Print of a text that is much too long: %d bytes, error %d at %d", len(text), e, at)
	}
}

// P3.1, L15: offsets do not matter, all other fields do, of tokens that are not valid, too.
func TestSame(t *testing.T) {
	for _, x := range []struct {
		a, b []api.Token
		want bool
	}{
		{nil, nil, true}, {nil, []api.Token{}, true}, {list(name("x")), nil, false}, {nil, list(api.Token{}), false}, {list(name("x"), name("y")), list(name("x")), false}, {list(name("x")), list(name("x"), name("x")), false},
		{list(name("x"), name("y")), list(name("y"), name("x")), false}, {list(name("x"), whole(1), sign(";")), list(name("x"), whole(1), sign(";")), true}, {list(name("x"), whole(1), sign(";")), list(name("x"), whole(2), sign(";")), false},
		{list(whole(1)), list(number(real.FromInt(1))), false}, {list(name("begin")), list(word("begin")), false}, {list(quoted(";")), list(sign(";")), false},
	} {
		if lex.Same(x.a, x.b) != x.want || lex.Same(x.b, x.a) != x.want {
			t.Errorf("Same(%v, %v) is not %t", x.a, x.b, x.want)
		}
	}
	all := append(validTokens(), invalidTokens()...)
	for i, a := range all {
		moved := placed(a.At+i+1, math.MaxInt-i, a)
		if !lex.Same(list(a), list(moved)) || !lex.Same(list(word("if"), moved), list(word("if"), a)) {
			t.Errorf("Same(%+v, %+v) = false", a, moved)
		}
		for _, b := range list(api.Token{Kind: a.Kind + 1, Text: a.Text, N: a.N, Real: a.Real}, api.Token{Kind: a.Kind, Text: a.Text + "x", N: a.N, Real: a.Real}, api.Token{Kind: a.Kind, Text: a.Text, N: a.N ^ 1, Real: a.Real},
			api.Token{Kind: a.Kind, Text: a.Text, N: a.N, Real: api.Real{Man: a.Real.Man ^ 1, Exp: a.Real.Exp}}, api.Token{Kind: a.Kind, Text: a.Text, N: a.N, Real: api.Real{Man: a.Real.Man, Exp: a.Real.Exp ^ 1}}) {
			if lex.Same(list(a), list(b)) || lex.Same(list(b, a), list(a, a)) || lex.Same(list(a, b, a), list(a, a, a)) || lex.Same(list(a, b), list(a, a)) {
				t.Errorf("Same(%+v, %+v) = true", a, b)
			}
		}
	}
}

// namesOf returns a name for each byte of a string.
func namesOf(s string) []api.Token {
	var l []api.Token
	for i := range len(s) {
		l = append(l, placed(7*i, 7*i-3, name(s[i:i+1])))
	}
	return l
}

// wantDiff compares Diff with these numbers, in both directions.
func wantDiff(t *testing.T, a, b []api.Token, head, tail int) {
	t.Helper()
	if h, l := lex.Diff(a, b); h != head || l != tail {
		t.Errorf("Diff(%v, %v) = %d, %d; want %d, %d", a, b, h, l, head, tail)
	}
	if h, l := lex.Diff(b, a); h != head || l != tail {
		t.Errorf("Diff(%v, %v) = %d, %d; want %d, %d", b, a, h, l, head, tail)
	}
}

// P3.1, L16: first the head, then the tail, which does not count a token again.
func TestDiff(t *testing.T) {
	for _, x := range []struct {
		a, b       string
		head, tail int
	}{
		{"abcb", "ab", 2, 0}, {"abc", "axyc", 1, 1}, {"", "", 0, 0}, {"a", "", 0, 0}, {"a", "a", 1, 0}, {"a", "b", 0, 0}, {"ab", "ab", 2, 0}, {"ab", "ac", 1, 0}, {"ab", "cb", 0, 1}, {"ab", "ba", 0, 0},
		{"aa", "aaa", 2, 0}, {"aa", "aaaaa", 2, 0}, {"aba", "a", 1, 0}, {"aba", "aa", 1, 1}, {"abab", "ab", 2, 0}, {"abcabc", "abc", 3, 0}, {"xabc", "abc", 0, 3}, {"abcd", "abxcd", 2, 2}, {"abbc", "abc", 2, 1}, {"abbbc", "abbc", 3, 1}, {"abcde", "axcye", 1, 1}, {"abcxdef", "abcydef", 3, 3}, {"xa", "a", 0, 1}, {"ba", "aa", 0, 1},
	} {
		wantDiff(t, namesOf(x.a), namesOf(x.b), x.head, x.tail)
	}
	wantDiff(t, tokensOf(t, "a b c b"), tokensOf(t, "a b"), 2, 0)
	wantDiff(t, tokensOf(t, "a b c"), tokensOf(t, "a x y c"), 1, 1)
	wantDiff(t, tokensOf(t, "if 1 then \"a\" := 2.5;"), tokensOf(t, "\nif\t1 then a := 2.50;"), 3, 3)
	odd := invalidTokens()
	wantDiff(t, odd, odd, len(odd), 0)
	wantDiff(t, append(slices.Clone(odd), name("x")), append(list(name("x")), odd...), 0, 0)
	wantDiff(t, list(whole(1), whole(2), whole(1)), list(number(real.FromInt(1)), whole(2), whole(1)), 0, 2)
	wantDiff(t, list(number(api.Real{Man: 1}), number(api.Real{Man: 2})), list(number(api.Real{Man: 1, Exp: 1}), number(api.Real{Man: 2})), 0, 1)
}

// P3.1, L16: mixed lists of a few names, against counting.
func TestDiffOfMixed(t *testing.T) {
	r := rand.New(rand.NewSource(5))
	for range 20000 {
		a, b := mixedText(r, r.Intn(8), "ab"), mixedText(r, r.Intn(8), "ab")
		head := 0
		for head < min(len(a), len(b)) && a[:head+1] == b[:head+1] {
			head++
		}
		tail := 0
		for head+tail < min(len(a), len(b)) && a[len(a)-1-tail:] == b[len(b)-1-tail:] {
			tail++
		}
		wantDiff(t, namesOf(a), namesOf(b), head, tail)
	}
}

// P3.1, L17: the first one, of any list.
func TestFind(t *testing.T) {
	l := tokensOf(t, "x1 := \"a b\";\n y")
	for at, want := range []int{0, 0, -1, 1, 1, -1, 2, 2, 2, 2, 2, 3, -1, -1, 4, -1} {
		wantFind(t, l, at, want)
	}
	for _, at := range []int{-1, 16, 100, math.MaxInt, math.MinInt} {
		wantFind(t, l, at, -1)
		wantFind(t, nil, at, -1)
	}
	wantFind(t, nil, 0, -1)
	x := name("x")
	l = list(placed(5, 5, x), placed(6, 4, x), placed(4, 7, api.Token{}), placed(0, 9, x), placed(-3, 0, x), placed(math.MinInt, math.MaxInt, api.Token{Kind: 99}), placed(math.MaxInt-1, math.MaxInt, x))
	for at, want := range map[int]int{5: 2, 4: 2, 6: 2, 7: 3, 3: 3, 0: 3, 8: 3, 9: 5, -1: 4, -3: 4, -4: 5, math.MinInt: 5, math.MaxInt - 1: 5, math.MaxInt: -1} {
		wantFind(t, l, at, want)
	}
	wantFind(t, l[6:], math.MaxInt-1, 0)
	wantFind(t, l[:2], 5, -1)
	wantFind(t, list(placed(10, 20, x), placed(0, 10, x)), 3, 1)
	wantFind(t, list(placed(10, 20, x), placed(0, 10, x)), 10, 0)
}

// wantFind compares Find with an index, or with ErrNone, if the index is -1.
func wantFind(t *testing.T, l []api.Token, at, want int) {
	t.Helper()
	wantErr := api.OK
	if want < 0 {
		want, wantErr = 0, api.ErrNone
	}
	if i, e := lex.Find(l, at); i != want || e != wantErr {
		t.Errorf("Find(%s, %d) = %d, %d; want %d, %d", few(l), at, i, e, want, wantErr)
	}
}

// P3.1: arguments are not changed, nor is what lies behind them.
func TestTokensAreKept(t *testing.T) {
	for _, l := range append(mixedTokens(6, 200), append(validTokens(), invalidTokens()...)) {
		all := append(slices.Clone(l), validTokens()...)
		before := slices.Clone(all)
		a, b := all[:len(l)], all[len(l)/2:len(l)]
		lex.Check(a)
		lex.Print(a)
		lex.Same(a, b)
		lex.Diff(a, b)
		lex.Find(a, 3)
		for _, token := range a {
			lex.Valid(token)
		}
		if !slices.Equal(all, before) {
			t.Errorf("%s has been changed", few(before))
		}
	}
}
