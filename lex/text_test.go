package lex_test

import (
	"strings"
	"testing"

	"manorboy/api"
	"manorboy/lex"
	"manorboy/real"
)

// P3.1, L3 to L9: the examples.
func TestLexExamples(t *testing.T) {
	wantTokens(t, "x1:=2//y", placed(0, 2, name("x1")), placed(2, 4, sign(":=")), placed(4, 5, whole(2)), placed(5, 7, sign("//")), placed(7, 8, name("y")))
	wantTokens(t, "1.5e2 7", placed(0, 5, number(real.FromInt(150))), placed(6, 7, whole(7)))
	wantTokens(t, "begin comment a; b end c, \"d else", placed(0, 5, word("begin")), placed(17, 18, name("b")), placed(19, 22, word("end")), placed(29, 33, word("else")))
	for _, x := range []struct {
		text string
		e    api.Errno
		at   int
	}{
		{"a comment b;", api.ErrForm, 2}, {"; comment b", api.ErrForm, 2}, {"; 12a", api.ErrForm, 2}, {"1.", api.ErrForm, 0}, {"1.5.2", api.ErrForm, 0}, {"2e+", api.ErrForm, 0},
		{"a 2147483648", api.ErrRange, 2}, {"b \"x", api.ErrForm, 2}, {"c $", api.ErrForm, 2}, {"abcdefghijklmnopq", api.ErrLimit, 0},
	} {
		wantFailure(t, x.text, x.e, x.at)
	}
}

// P3.1, L3: texts without tokens, and the four blanks.
func TestBlanks(t *testing.T) {
	for _, text := range []string{"", " ", "\t", "\n", "\r", " \t\r\n \n"} {
		wantTokens(t, text)
	}
	wantTokens(t, "\n\tx\r\n y ", placed(2, 3, name("x")), placed(6, 7, name("y")))
	for b := range 256 {
		s := string([]byte{byte(b)})
		if strings.Contains("\t\n\r ", s) {
			wantTokens(t, "x"+s+"y", placed(0, 1, name("x")), placed(2, 3, name("y")))
			wantTokens(t, s+s)
		}
		wantReading(t, "x"+s+"y")
		wantReading(t, s+"x")
		wantReading(t, "7 "+s)
	}
}

// P3.1, L3 to L9: each byte alone.
func TestBytes(t *testing.T) {
	for b := range 256 {
		s := string([]byte{byte(b)})
		switch {
		case 'a' <= b && b <= 'z':
			wantTokens(t, s, placed(0, 1, name(s)))
		case '0' <= b && b <= '9':
			wantTokens(t, s, placed(0, 1, whole(b-'0')))
		case strings.Contains("+-*/^<=>:;,()[]", s):
			wantTokens(t, s, placed(0, 1, sign(s)))
		case strings.Contains("\t\n\r ", s):
			wantTokens(t, s)
		default:
			wantFailure(t, s, api.ErrForm, 0)
			wantFailure(t, "x\n "+s, api.ErrForm, 3)
		}
	}
}

// P3.1, L6: words and identifiers.
func TestWordsAndNames(t *testing.T) {
	for _, w := range reservedWords() {
		n := len(w)
		if w == "comment" {
			wantFailure(t, w, api.ErrForm, 0)
		} else {
			wantTokens(t, w, placed(0, n, word(w)))
			wantTokens(t, "("+w+"]", list(placed(0, 1, sign("(")), placed(1, n+1, word(w)), placed(n+1, n+2, sign("]")))[:lengthOfPair(w)]...)
		}
		wantTokens(t, w+"1", placed(0, n+1, name(w+"1")))
		wantTokens(t, "x"+w, placed(0, n+1, name("x"+w)))
		wantReading(t, w+w)
		wantReading(t, strings.ToUpper(w))
		wantReading(t, w+strings.ToUpper(w))
	}
	wantTokens(t, "if1 1 if", placed(0, 3, name("if1")), placed(4, 5, whole(1)), placed(6, 8, word("if")))
	wantTokens(t, "a+b1*c", placed(0, 1, name("a")), placed(1, 2, sign("+")), placed(2, 4, name("b1")), placed(4, 5, sign("*")), placed(5, 6, name("c")))
	wantFailure(t, "ab Cd", api.ErrForm, 3)
	wantFailure(t, "abCd", api.ErrForm, 2)
	wantFailure(t, "a_b", api.ErrForm, 1)
	wantFailure(t, "a.b", api.ErrForm, 1)
}

// lengthOfPair returns how many of the tokens of a word between signs there are: what stands behind the word end is skipped.
func lengthOfPair(w string) int {
	if w == "end" {
		return 2
	}
	return 3
}

// P3.1, L6: the length of identifiers, among other tokens, too.
func TestLongNames(t *testing.T) {
	for _, n := range []string{"abcdefghijklmnop", "a123456789012345", strings.Repeat("z", 16), "procedureprocedu", "endendendendende"} {
		wantTokens(t, n, placed(0, 16, name(n)))
		wantTokens(t, "; "+n+"\n", placed(0, 1, sign(";")), placed(2, 18, name(n)))
		for _, more := range []string{"a", "z", "0", "9", "end", strings.Repeat("x1", 5000)} {
			wantFailure(t, n+more, api.ErrLimit, 0)
			wantFailure(t, "begin x "+n+more+" $", api.ErrLimit, 8)
		}
		wantFailure(t, n+"Q", api.ErrForm, 16)
	}
}

// P3.1, L7.
func TestNumbers(t *testing.T) {
	for _, x := range []struct {
		text string
		n    int
	}{{"0", 0}, {"7", 7}, {"007", 7}, {"00", 0}, {"2147483647", api.MaxInt}, {"0000000000002147483647", api.MaxInt}, {"1234567890", 1234567890}, {strings.Repeat("0", 500) + "12", 12}} {
		wantTokens(t, x.text, placed(0, len(x.text), whole(x.n)))
	}
	for _, text := range []string{"0.0", "1.0", "1e0", "00.10", "1e5", "1e+5", "1e-5", "2.5e3", "2.5e+3", "2.5e-3", "0e999", "1.000e00", "3.14159265358979", "1e-99", "2147483648.0", "2147483648e0", "9e51", "0." + strings.Repeat("1", 58)} {
		x, e := real.Parse(text)
		if e != api.OK {
			t.Errorf("Parse(%q): error %d", text, e)
		}
		wantTokens(t, text, placed(0, len(text), number(x)))
	}
	wantTokens(t, "-1+2.5", placed(0, 1, sign("-")), placed(1, 2, whole(1)), placed(2, 3, sign("+")), placed(3, 6, number(api.Real{Man: 5 << 21, Exp: -22})))
	wantTokens(t, "1e5-2e5", placed(0, 3, number(real.FromInt(100000))), placed(3, 4, sign("-")), placed(4, 7, number(real.FromInt(200000))))
	wantTokens(t, "x1 1\t2,3", placed(0, 2, name("x1")), placed(3, 4, whole(1)), placed(5, 6, whole(2)), placed(6, 7, sign(",")), placed(7, 8, whole(3)))
	wantTokens(t, "1\"e5\"", placed(0, 1, whole(1)), placed(1, 5, quoted("e5")))
}

// P3.1, L7: a letter or a point behind a number is the first error, even where the number is too great; otherwise the error is that of the number.
func TestWrongNumbers(t *testing.T) {
	for _, text := range []string{"1.", "1.x", "1..2", "1.e5", "1. 5", "1.5.", "1.5.2", "1.5e", "1.5e+", "1.5e-", "1.5ex", "1e", "2e+", "2e-", "2e+x", "2e+-3", "2e++3", "2e 3", "2e+ 3", "2e3e4", "2e3.4", "2e3x", "12a", "0x10", "1e5e", "12comment", "1end",
		"2147483648x", "99999999999999999999.", "99999999999999999999e", "1e99.", "1e99x", "0." + strings.Repeat("1", 70) + "x"} {
		wantFailure(t, text, api.ErrForm, 0)
		wantFailure(t, "; "+text+" $", api.ErrForm, 2)
	}
	for _, text := range []string{"2147483648", "4294967296", "99999999999999999999", "18446744073709551616", "1e60", "1e53", "1e99999999999999999999", "1" + strings.Repeat("0", 500)} {
		wantFailure(t, text, api.ErrRange, 0)
		wantFailure(t, "x := "+text+" $", api.ErrRange, 5)
	}
	// A real number has at most 60 bytes.
	for _, text := range []string{"0." + strings.Repeat("1", 59), strings.Repeat("0", 59) + "e0", "0.5e" + strings.Repeat("0", 57), "1e" + strings.Repeat("9", 59)} {
		wantFailure(t, text, api.ErrForm, 0)
		wantFailure(t, "x "+text, api.ErrForm, 2)
	}
	wantFailure(t, "1A", api.ErrForm, 1)
	wantFailure(t, "1.5_", api.ErrForm, 3)
}

// P3.1, L8.
func TestStringTokens(t *testing.T) {
	all := ""
	for b := 32; b <= 126; b++ {
		if b != 34 {
			all += string(rune(b))
		}
	}
	for _, s := range []string{"", "a", " ", "x := 1;", "end", "comment", "; comment x;", "\\", "'", all[:80], all[len(all)-80:], strings.Repeat(" ", 80)} {
		text := "\"" + s + "\""
		wantTokens(t, text, placed(0, len(text), quoted(s)))
		wantTokens(t, "x"+text+"1", placed(0, 1, name("x")), placed(1, len(text)+1, quoted(s)), placed(len(text)+1, len(text)+2, whole(1)))
		wantTokens(t, text+text, placed(0, len(text), quoted(s)), placed(len(text), 2*len(text), quoted(s)))
	}
	wantTokens(t, `"begin" ";"`, placed(0, 7, quoted("begin")), placed(8, 11, quoted(";")))
	wantFailure(t, `"begin" comment x;`, api.ErrForm, 8)
	wantFailure(t, `";" comment x;`, api.ErrForm, 4)
}

// P3.1, L8: which bytes can stand in a string, and how many; a wrong byte is the first error.
func TestWrongStrings(t *testing.T) {
	for b := range 256 {
		s := string([]byte{byte(b)})
		text := "x \"a" + s + "b\""
		switch {
		case b == 34:
			wantFailure(t, text, api.ErrForm, 6)
		case 32 <= b && b <= 126:
			wantTokens(t, text, placed(0, 1, name("x")), placed(2, 7, quoted("a"+s+"b")))
		default:
			wantFailure(t, text, api.ErrForm, 2)
		}
	}
	long := strings.Repeat("s", 81)
	for _, x := range []struct {
		text string
		e    api.Errno
	}{
		{`"`, api.ErrForm}, {`"abc`, api.ErrForm}, {`"abc;`, api.ErrForm}, {"\"a\nb\"", api.ErrForm}, {"\"a\n", api.ErrForm}, {"\"\x7f\"", api.ErrForm}, {"\"é\"", api.ErrForm},
		{"\"" + long + "\"", api.ErrLimit}, {"\"" + long, api.ErrForm}, {"\"" + long + "\n\"", api.ErrForm}, {"\"\t" + long + "\"", api.ErrForm}, {"\"" + strings.Repeat(long, 100) + "\"", api.ErrLimit}, {"\"" + strings.Repeat(long, 100) + "\x80\"", api.ErrForm},
	} {
		wantFailure(t, x.text, x.e, 0)
		wantFailure(t, "(\r\n"+x.text, x.e, 3)
		wantFailure(t, `"ok"`+x.text, x.e, 4)
	}
}

// P3.1, L9: the longest sign, for each two signs in a row, and in longer rows.
func TestSignTokens(t *testing.T) {
	for _, a := range signTexts() {
		for _, b := range signTexts() {
			wantReading(t, a+b)
			wantTokens(t, a+" "+b, placed(0, len(a), sign(a)), placed(len(a)+1, len(a)+1+len(b), sign(b)))
		}
		wantTokens(t, a+"x", placed(0, len(a), sign(a)), placed(len(a), len(a)+1, name("x")))
		wantFailure(t, a+"$", api.ErrForm, len(a))
	}
	for text, want := range map[string]string{
		"///": "// /", "//=": "// =", "/=/": "/= /", "/==": "/= =", "<==": "<= =", ">=>": ">= >", "<>": "< >", "<=>": "<= >", "=<": "= <", "=>": "= >", "=:": "= :", ":==": ":= =", "::=": ": :=", ":=:": ":= :", "**": "* *", "+-": "+ -", "==": "= =", "//// /": "// // /", "([])": "( [ ] )",
	} {
		got := ""
		for _, token := range tokensOf(t, text) {
			got += " " + token.Text
		}
		if got != " "+want {
			t.Errorf("Lex(%q): signs%s; want %s", text, got, want)
		}
		wantReading(t, text)
	}
	for _, text := range []string{"!", "#", "$", "%", "&", "'", ".", "?", "@", "\\", "_", "`", "{", "|", "}", "~", "\x00", "\x7f", "\x80", "\v", "\f", "×", ".5", "'x'", "!="} {
		wantFailure(t, text, api.ErrForm, 0)
		wantFailure(t, "x  "+text, api.ErrForm, 3)
	}
}

// P3.1, L6: what is skipped behind the word end.
func TestBehindEnd(t *testing.T) {
	end := func(at int) api.Token { return placed(at, at+3, word("end")) }
	semicolon := func(at int) api.Token { return placed(at, at+1, sign(";")) }
	for _, x := range []struct {
		text string
		want []api.Token
	}{
		{"end", list(end(0))}, {"end ", list(end(0))}, {"end x", list(end(0))}, {"end $ \" 1x 2147483648 abcdefghijklmnopq \x00\xff", list(end(0))}, {"end comment", list(end(0))}, {"end comment x; y", list(end(0), semicolon(13), placed(15, 16, name("y")))},
		{"end;", list(end(0), semicolon(3))}, {"end x;y", list(end(0), semicolon(5), placed(6, 7, name("y")))}, {"end \"a;b\"", nil}, {"end end", list(end(0), end(4))}, {"end+end", list(end(0), end(4))}, {"end end end", list(end(0), end(4), end(8))},
		{"end else x", list(end(0), placed(4, 8, word("else")), placed(9, 10, name("x")))}, {"end Xend", list(end(0), end(5))}, {"end _else", list(end(0), placed(5, 9, word("else")))}, {"end .end", list(end(0), end(5))}, {"end \xffend\xff", list(end(0), end(5))},
		{"end xend endx 1end end1 elsex xelse 1else else1 endelse", list(end(0))}, {"end elsEnd else", list(end(0), placed(11, 15, word("else")))}, {"end eNd", list(end(0))}, {"end en d el se", list(end(0))},
		{"end begin if then do x := 1", list(end(0))}, {"end begin comment x; end", list(end(0), semicolon(19), end(21))}, {"end \"end\"", list(end(0), end(5))}, {"end \"else", list(end(0), placed(5, 9, word("else")))}, {"end 1.end", list(end(0), end(6))},
		{"end1 x", list(placed(0, 4, name("end1")), placed(5, 6, name("x")))}, {"xend x", list(placed(0, 4, name("xend")), placed(5, 6, name("x")))}, {"\"end\" x", list(placed(0, 5, quoted("end")), placed(6, 7, name("x")))},
		{"end x; comment y; z", list(end(0), semicolon(5), placed(18, 19, name("z")))}, {"end:=else:=", list(end(0), placed(5, 9, word("else")), placed(9, 11, sign(":=")))}, {"end\nend\telse\r;", list(end(0), end(4), placed(8, 12, word("else")), semicolon(13))},
	} {
		if x.want != nil {
			wantTokens(t, x.text, x.want...)
		}
		wantReading(t, x.text)
	}
	wantFailure(t, "end \"a;b\"", api.ErrForm, 8)
	wantFailure(t, "end 1; $", api.ErrForm, 7)
	wantFailure(t, "end $ else comment x;", api.ErrForm, 11)
	wantFailure(t, "end else $", api.ErrForm, 9)
}

// P3.1, L4: where comments can stand.
func TestWordComment(t *testing.T) {
	for _, text := range []string{"begin comment;", "begin comment ;", "; comment;", ";comment x;", "begin\ncomment a\n\"b\" $ end else begin;", "; comment \x00\x80\xff;", "; comment comment;", "begin comment a; comment b;\tcomment c;", "begin comment a;;comment b;", "x; comment 1; y", "begin comment+1;", "begin comment\"x;", "begin commentX;", "end;comment x;", "begin comment(;"} {
		for _, token := range wantReading(t, text).tokens {
			if token.Kind != api.TkWord && token.Kind != api.TkSign && token.Text != "x" && token.Text != "y" {
				t.Errorf("Lex(%q): token %v", text, token)
			}
		}
	}
	wantTokens(t, "begin comment a; comment b; x", placed(0, 5, word("begin")), placed(28, 29, name("x")))
	wantTokens(t, ";comment;x", placed(0, 1, sign(";")), placed(9, 10, name("x")))
	wantTokens(t, "begin comment1 x", placed(0, 5, word("begin")), placed(6, 14, name("comment1")), placed(15, 16, name("x")))
	wantTokens(t, "comments", placed(0, 8, name("comments")))
	wantTokens(t, "xcomment", placed(0, 8, name("xcomment")))
	for _, x := range []struct {
		text string
		at   int
	}{
		{"comment", 0}, {"comment;", 0}, {" comment x;", 1}, {"x comment;", 2}, {"then comment x;", 5}, {"else comment x;", 5}, {"do comment x;", 3}, {":=comment x;", 2}, {"1 comment x;", 2}, {"\"x\"comment x;", 3}, {":comment x;", 1}, {"begin x comment y;", 8},
		{"begin comment", 6}, {"begin comment x", 6}, {";comment", 1}, {"; comment a; comment b", 13}, {"begin comment a; x comment b;", 19}, {"; comment a; comment b; 1 comment c;", 26}, {"begin1 comment x;", 7}, {"begin ( comment x;", 8},
	} {
		wantFailure(t, x.text, api.ErrForm, x.at)
	}
}

// P3.1, L3: the length of a text comes first.
func TestLongTexts(t *testing.T) {
	for _, text := range []string{strings.Repeat(" ", api.MaxSource), strings.Repeat("\n", api.MaxSource-1) + "x", "begin comment " + strings.Repeat("x", api.MaxSource-15) + ";", "end" + strings.Repeat("\"", api.MaxSource-3), strings.Repeat("0", api.MaxSource)} {
		if len(text) != api.MaxSource {
			t.Errorf("%d bytes", len(text))
		}
		want := read(text, api.MaxTokens)
		tokens, e, at := lex.Lex(text)
		if e != api.OK || at != 0 || !lex.Same(tokens, want.tokens) {
			t.Errorf("Lex of %.20q .. : error %d at %d", text, e, at)
		}
		wantFailure(t, text+" ", api.ErrLimit, 0)
		wantFailure(t, "x $"+text, api.ErrLimit, 0)
	}
	wantFailure(t, strings.Repeat("$", api.MaxSource+1), api.ErrLimit, 0)
	wantFailure(t, strings.Repeat("a ", api.MaxSource), api.ErrLimit, 0)
	wantFailure(t, strings.Repeat(" ", api.MaxSource-1)+"$", api.ErrForm, api.MaxSource-1)
	wantFailure(t, strings.Repeat("x", api.MaxSource), api.ErrLimit, 0)
	wantFailure(t, " "+strings.Repeat("x", api.MaxSource-1), api.ErrLimit, 1)
}

// P3.1, L5: the number of tokens comes before the errors of tokens.
func TestManyTokens(t *testing.T) {
	for _, one := range []string{"a ", "7\n"} {
		text := strings.Repeat(one, api.MaxTokens)
		if n := len(tokensOf(t, text)); n != api.MaxTokens {
			t.Errorf("%d tokens of %d times %q", n, api.MaxTokens, one)
		}
		wantFailure(t, text+one, api.ErrLimit, len(text))
	}
	text := strings.Repeat(";", api.MaxTokens)
	for _, more := range []string{"", " \t\r\n"} {
		if n := len(tokensOf(t, text+more)); n != api.MaxTokens {
			t.Errorf("%d tokens of %d signs and %q", n, api.MaxTokens, more)
		}
	}
	for _, more := range []string{"b", "7", ";", "end", "\"s\"", "$", "\"", "1.", "2147483648", "abcdefghijklmnopq"} {
		if _, e, at := lex.Lex(text + "\n" + more + " $"); e != api.ErrLimit || at != len(text)+1 {
			t.Errorf("Lex of %d signs and %q: error %d at %d", api.MaxTokens, more, e, at)
		}
	}
}

// P3.1, L4 to L6: the number of tokens does not matter for comments, whose errors come first.
func TestCommentsBehindManyTokens(t *testing.T) {
	text := strings.Repeat(";", api.MaxTokens)
	wantComments(t, text+"comment $;\n", pieces(api.Piece{At: len(text), End: len(text) + 10}), api.OK, 0)
	wantFailure(t, text+"comment x;y", api.ErrLimit, len(text)+10)
	wantFailure(t, text+"comment x", api.ErrForm, len(text))
	text = strings.Repeat("(", api.MaxTokens)
	wantFailure(t, text+"comment x;", api.ErrForm, len(text))
	wantFailure(t, text+"comments", api.ErrLimit, len(text))
	text = strings.Repeat(";", api.MaxTokens-1) + "end"
	wantComments(t, text+" \"$ ", pieces(api.Piece{At: len(text) + 1, End: len(text) + 3}), api.OK, 0)
	wantFailure(t, text+" x;", api.ErrLimit, len(text)+2)
	wantFailure(t, text+" x end", api.ErrLimit, len(text)+3)
}

// P3.1, L3 to L11: mixed texts, with errors and without.
func TestMixedTexts(t *testing.T) {
	ok, errors := 0, map[api.Errno]int{}
	for _, text := range mixedTexts(3, 20000) {
		if r := wantReading(t, text); r.e == api.OK {
			ok++
		} else {
			errors[r.e]++
		}
	}
	if ok < 2000 || errors[api.ErrForm] < 1000 || errors[api.ErrLimit] < 50 || errors[api.ErrRange] < 50 {
		t.Errorf("%d texts without an error, %v with errors", ok, errors)
	}
}

// P3.1, L3 to L11: all short texts of a few bytes that matter.
func TestShortTexts(t *testing.T) {
	bytes := []byte("a1e.+;:=/\" \n$")
	var try func(text string, left int)
	try = func(text string, left int) {
		wantReading(t, text)
		if left > 0 {
			for _, b := range bytes {
				try(text+string(rune(b)), left-1)
			}
		}
	}
	try("", 4)
	bytes = []byte("x1;. \"")
	for _, text := range []string{"end", "end end", "end else", "end x end", ";comment", "begin comment", "1.5", "2e3"} {
		try(text, 3)
	}
}

// P3.1: a result is new memory, and a call changes nothing that a later one could tell.
func TestLexIsNew(t *testing.T) {
	text := "begin comment a; x := 1.5 end of it; comment b; \"c\""
	first, again := tokensOf(t, text), tokensOf(t, text)
	clear(first[:cap(first)])
	if !lex.Same(again, read(text, api.MaxTokens).tokens) {
		t.Errorf("Lex(%q) = %v, after another result has been changed", text, again)
	}
	found, _, _ := lex.Comments(text)
	clear(found[:cap(found)])
	wantReading(t, text)
	wantFailure(t, text+"$", api.ErrForm, len(text))
	wantReading(t, text)
}
