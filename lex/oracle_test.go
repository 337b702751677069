package lex_test

import (
	"fmt"
	"math/rand"
	"regexp"
	"slices"
	"strings"
	"testing"

	"manorboy/api"
	"manorboy/integer"
	"manorboy/lex"
	"manorboy/real"
)

func word(s string) api.Token           { return api.Token{Kind: api.TkWord, Text: s} }
func name(s string) api.Token           { return api.Token{Kind: api.TkName, Text: s} }
func sign(s string) api.Token           { return api.Token{Kind: api.TkSign, Text: s} }
func quoted(s string) api.Token         { return api.Token{Kind: api.TkString, Text: s} }
func whole(n int) api.Token             { return api.Token{Kind: api.TkInt, N: n} }
func number(x api.Real) api.Token       { return api.Token{Kind: api.TkReal, Real: x} }
func list(l ...api.Token) []api.Token   { return l }
func pieces(l ...api.Piece) []api.Piece { return l }

// placed returns a token with its offsets.
func placed(at, end int, t api.Token) api.Token {
	t.At, t.End = at, end
	return t
}

// reading is what the document says of a text.
type reading struct {
	tokens   []api.Token
	comments []api.Piece
	e        api.Errno
	at       int
}

// The forms of the document, at the beginning of a text.
var (
	blanksForm = regexp.MustCompile(`^[\t\n\r ]*`)
	runForm    = regexp.MustCompile(`^[a-z0-9]+`)
	numberForm = regexp.MustCompile(`^[0-9]+(\.[0-9]+)?(e[+-]?[0-9]+)?`)
	badForm    = regexp.MustCompile(`^[a-z.]`)
	stringForm = regexp.MustCompile(`^"([ !#-~]*)"`)
	signForm   = regexp.MustCompile(`^(//|/=|<=|>=|:=|[-+*/^<=>:;,()\[\]])`)
)

// read reads a text as L3 to L10 say, at most limit tokens of it.
func read(text string, limit int) reading {
	if len(text) > api.MaxSource {
		return reading{e: api.ErrLimit}
	}
	var r reading
	for i := len(blanksForm.FindString(text)); i < len(text); {
		last := api.Token{}
		if len(r.tokens) > 0 {
			last = r.tokens[len(r.tokens)-1]
		}
		next := i
		if runForm.FindString(text[i:]) == "comment" {
			semicolon := strings.Index(text[i:], ";")
			if last.Text != ";" && last.Text != "begin" || last.Kind == api.TkString || semicolon < 0 {
				return reading{e: api.ErrForm, at: i}
			}
			next = i + semicolon + 1
			r.comments = append(r.comments, api.Piece{At: i, End: next})
		} else {
			token, e := readOne(text[i:])
			if len(r.tokens) == limit {
				e = api.ErrLimit
			}
			if e != api.OK {
				return reading{e: e, at: i}
			}
			next = i + token.End
			r.tokens = append(r.tokens, placed(i, next, token))
			if token.Kind == api.TkWord && token.Text == "end" {
				behind := next
				next += lengthBehindEnd(text[next:])
				if comment := strings.Trim(text[behind:next], "\t\n\r "); comment != "" {
					from := behind + strings.Index(text[behind:next], comment)
					r.comments = append(r.comments, api.Piece{At: from, End: from + len(comment)})
				}
			}
		}
		i = next + len(blanksForm.FindString(text[next:]))
	}
	return r
}

// readOne reads the token at the beginning of a text; its End is its length.
func readOne(text string) (api.Token, api.Errno) {
	b := text[0]
	switch {
	case 'a' <= b && b <= 'z':
		run := runForm.FindString(text)
		if slices.Contains(reservedWords(), run) {
			return placed(0, len(run), word(run)), api.OK
		}
		if len(run) > 16 {
			return api.Token{}, api.ErrLimit
		}
		return placed(0, len(run), name(run)), api.OK
	case '0' <= b && b <= '9':
		digits := numberForm.FindString(text)
		if badForm.MatchString(text[len(digits):]) {
			return api.Token{}, api.ErrForm
		}
		if strings.ContainsAny(digits, ".e") {
			x, e := real.Parse(digits)
			return placed(0, len(digits), number(x)), e
		}
		n, e := integer.Parse(digits)
		return placed(0, len(digits), whole(n)), e
	case b == '"':
		found := stringForm.FindStringSubmatch(text)
		if found == nil {
			return api.Token{}, api.ErrForm
		}
		if len(found[1]) > 80 {
			return api.Token{}, api.ErrLimit
		}
		return placed(0, len(found[0]), quoted(found[1])), api.OK
	}
	s := signForm.FindString(text)
	if s == "" {
		return api.Token{}, api.ErrForm
	}
	return placed(0, len(s), sign(s)), api.OK
}

// lengthBehindEnd returns how many bytes are skipped at the beginning of a text that stands behind the word end.
func lengthBehindEnd(text string) int {
	for i := 0; i < len(text); i++ {
		run := runForm.FindString(text[i:])
		if text[i] == ';' || run == "end" || run == "else" {
			return i
		}
		if run != "" {
			i += len(run) - 1
		}
	}
	return len(text)
}

// reservedWords are the words of the document.
func reservedWords() []string {
	return strings.Fields("begin end if then else for do step until while goto own integer real boolean array switch procedure value label string true false comment not and or imp eqv")
}

// signTexts are the signs of the document.
func signTexts() []string {
	return strings.Fields("+ - * / // ^ < <= = /= >= > := : ; , ( ) [ ]")
}

// few returns the tokens for a message, or the first ones of many.
func few(l []api.Token) string {
	return fmt.Sprintf("%d tokens %+v", len(l), l[:min(len(l), 8)])
}

// wantReading compares Lex, Comments and Strip of a text with what the document says, and returns that.
func wantReading(t *testing.T, text string) reading {
	t.Helper()
	want := read(text, api.MaxTokens)
	tokens, e, at := lex.Lex(text)
	if !slices.Equal(tokens, want.tokens) || e != want.e || at != want.at {
		t.Errorf("Lex(%.200q) = %s, %d, %d; want %s, %d, %d", text, few(tokens), e, at, few(want.tokens), want.e, want.at)
	}
	wantComments(t, text, want.comments, want.e, want.at)
	return want
}

// wantComments compares Comments and Strip of a text with these comments, or this error.
func wantComments(t *testing.T, text string, want []api.Piece, wantErr api.Errno, wantAt int) {
	t.Helper()
	found, e, at := lex.Comments(text)
	if !slices.Equal(found, want) || e != wantErr || at != wantAt {
		t.Errorf("Comments(%.200q) = %v, %d, %d; want %v, %d, %d", text, found, e, at, want, wantErr, wantAt)
	}
	stripped := ""
	if wantErr == api.OK {
		from := 0
		for _, c := range want {
			stripped += text[from:c.At] + " "
			from = c.End
		}
		stripped += text[from:]
	}
	s, e, at := lex.Strip(text)
	if s != stripped || e != wantErr || at != wantAt {
		t.Errorf("Strip(%.200q) = %.200q, %d, %d; want %.200q, %d, %d", text, s, e, at, stripped, wantErr, wantAt)
	}
}

// wantTokens compares Lex of a text with these tokens, offsets included, and with the reading of the document.
func wantTokens(t *testing.T, text string, want ...api.Token) {
	t.Helper()
	tokens, e, at := lex.Lex(text)
	if !slices.Equal(tokens, want) || e != api.OK || at != 0 {
		t.Errorf("Lex(%.200q) = %s, %d, %d; want %s", text, few(tokens), e, at, few(want))
	}
	wantReading(t, text)
}

// wantFailure compares the error of Lex, Comments and Strip of a text with this one; nothing else may be returned.
func wantFailure(t *testing.T, text string, want api.Errno, wantAt int) {
	t.Helper()
	tokens, e, at := lex.Lex(text)
	if len(tokens) != 0 || e != want || at != wantAt {
		t.Errorf("Lex(%.200q) = %s, %d, %d; want error %d at %d", text, few(tokens), e, at, want, wantAt)
	}
	wantComments(t, text, nil, want, wantAt)
}

// tokensOf returns the tokens of a text that has no error.
func tokensOf(t *testing.T, text string) []api.Token {
	t.Helper()
	tokens, e, at := lex.Lex(text)
	if e != api.OK || at != 0 {
		t.Fatalf("Lex(%.200q): error %d at %d", text, e, at)
	}
	return tokens
}

// fragments are what texts are mixed of: tokens, beginnings of comments, and blanks; bad ones are errors in most places.
func fragments() (good, bad []string) {
	good = append(reservedWords(), signTexts()...)
	good = append(good, "x", "x1", "end1", "elsewhere", "abcdefghijklmnop", "e", "e5", "0", "00", "7", "2147483647", "1.5", "0.0", "2e3", "1.5e-3", "9e+4",
		`""`, `"a"`, `"end"`, `"; comment"`, `"//:="`, "end", "end", "end", "; comment a;", "begin comment b\x00\xff;", ";comment;", "end x 1. $ \";", "end c else", "end of end")
	blanks := []string{" ", "\n", "\t", "\r", " \r\n\t "}
	for range 12 {
		good = append(good, blanks...)
	}
	bad = []string{"comment", "12a", "1.", "1.5.2", "2e+", "2147483648", "1e99", "abcdefghijklmnopq", "\"", "\"\n\"", "$", "A", "_", "\x00", "\x7f", "\xe9", ".", "'", "{", "|", "\v", "\f"}
	return good, bad
}

// mixedTexts returns texts that are mixed of fragments; of every four one has some bad ones.
func mixedTexts(seed int64, n int) []string {
	good, bad := fragments()
	r := rand.New(rand.NewSource(seed))
	var texts []string
	for i := range n {
		var text strings.Builder
		for range r.Intn(14) {
			text.WriteString(good[r.Intn(len(good))])
			if i%4 == 0 && r.Intn(8) == 0 {
				text.WriteString(bad[r.Intn(len(bad))])
			}
			if r.Intn(3) > 0 {
				text.WriteByte(' ')
			}
		}
		texts = append(texts, text.String())
	}
	return texts
}

// goodTexts returns mixed texts that have no error, ordinary programs among them.
func goodTexts(t *testing.T, seed int64) []string {
	texts := []string{
		"", " ", "\r\n\t ", "x", "begin end", "begin comment a; b end c, \"d else",
		"begin integer i; for i := 1 step 1 until 3 do outinteger(i * i) end",
		"begin real procedure sum(i, n, t); value n; integer n; begin real s;\n\tfor i := 1 step 1 until n do s := s + t; sum := s end;\n\tinteger j; outreal(sum(j, 4, j * j)) end of jensen's device",
		"begin own real array a, b[1: n, -1: 0]; comment none;\r\nl: a[1, i//2] := if not p imp q then 2.5e-3 else -b[1, 0] ^ 2; outstring(\"a; b\") end end; comment x; y",
	}
	for _, text := range mixedTexts(seed, 3000) {
		if read(text, api.MaxTokens).e == api.OK {
			texts = append(texts, text)
		}
	}
	if len(texts) < 1000 {
		t.Fatalf("%d texts only", len(texts))
	}
	return texts
}

// mixedTokens returns lists of valid tokens which Check accepts.
func mixedTokens(seed int64, n int) [][]api.Token {
	r := rand.New(rand.NewSource(seed))
	var lists [][]api.Token
	for range n {
		var l []api.Token
		for range r.Intn(12) {
			t := mixedToken(r)
			if len(l) > 0 && l[len(l)-1] == word("end") {
				t = list(sign(";"), word("end"), word("else"))[r.Intn(3)]
			}
			l = append(l, t)
		}
		lists = append(lists, l)
	}
	return lists
}

// mixedToken returns a valid token.
func mixedToken(r *rand.Rand) api.Token {
	words, signs := reservedWords(), signTexts()
	words = slices.DeleteFunc(words, func(s string) bool { return s == "comment" })
	switch r.Intn(7) {
	case 0:
		return word(words[r.Intn(len(words))])
	case 1:
		return name("n" + mixedText(r, r.Intn(16), "abcdefghijklmnopqrstuvwxyz0123456789"))
	case 2:
		return whole(r.Intn(api.MaxInt) >> r.Intn(31))
	case 3:
		x, _ := real.At(r.Intn(api.MaxIndex + 1))
		return number(x)
	case 4:
		return quoted(mixedText(r, r.Intn(81), " !#$%&'()*+,-./0123456789:;<=>?@ABCXYZ[\\]^_`abcxyz{|}~"))
	case 5:
		return sign(signs[r.Intn(len(signs))])
	}
	return word("end")
}

// mixedText returns a text of a length, of these bytes.
func mixedText(r *rand.Rand, length int, bytes string) string {
	text := make([]byte, length)
	for i := range text {
		text[i] = bytes[r.Intn(len(bytes))]
	}
	return string(text)
}
