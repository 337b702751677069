package lex_test

import (
	"math/rand"
	"slices"
	"strings"
	"testing"

	"manorboy/api"
	"manorboy/lex"
)

// wantSame reports a text whose tokens are not these.
func wantSame(t *testing.T, text string, want []api.Token) {
	t.Helper()
	tokens, e, at := lex.Lex(text)
	if e != api.OK || at != 0 || !lex.Same(tokens, want) {
		t.Errorf("Lex(%.200q) = %s, %d, %d; want %s", text, few(tokens), e, at, few(want))
	}
}

// P3.2: tokens of texts, and any others.
func TestBack(t *testing.T) {
	lists := mixedTokens(21, 5000)
	for _, text := range goodTexts(t, 22) {
		lists = append(lists, tokensOf(t, text))
	}
	for _, l := range lists {
		text, e, at := lex.Print(l)
		if e != api.OK || at != 0 {
			t.Errorf("Print(%s): error %d at %d", few(l), e, at)
			continue
		}
		wantSame(t, text, l)
		if comments, _, _ := lex.Comments(text); len(comments) > 0 {
			t.Errorf("comments of %.200q: %v", text, comments)
		}
	}
	for _, token := range validTokens() {
		text, _, _ := lex.Print(list(token))
		wantSame(t, text, list(token))
	}
}

// P3.3.
func TestOrder(t *testing.T) {
	for _, text := range goodTexts(t, 31) {
		tokens := tokensOf(t, text)
		if e, at := lex.Check(tokens); e != api.OK || at != 0 {
			t.Errorf("Check of the tokens of %q: error %d at %d", text, e, at)
		}
		covered, end := make([]bool, len(text)), 0
		cover := func(at, end int) {
			for i := at; i < end; i++ {
				if covered[i] {
					t.Errorf("the byte %d of %q lies in two tokens or comments", i, text)
				}
				covered[i] = true
			}
		}
		for _, token := range tokens {
			if !lex.Valid(token) || token.At < end || token.End <= token.At || token.End > len(text) {
				t.Fatalf("token %+v of %q", token, text)
			}
			end = token.End
			cover(token.At, token.End)
		}
		comments, _, _ := lex.Comments(text)
		end = 0
		for _, c := range comments {
			if c.At < end || c.End <= c.At || c.End > len(text) {
				t.Fatalf("comment %v of %q", c, text)
			}
			end = c.End
			cover(c.At, c.End)
		}
		for i, in := range covered {
			if !in && !strings.Contains("\t\n\r ", text[i:i+1]) {
				t.Errorf("the byte %d of %q lies in no token and no comment", i, text)
			}
		}
	}
}

// P3.4.
func TestAlone(t *testing.T) {
	for _, text := range goodTexts(t, 41) {
		for _, token := range tokensOf(t, text) {
			alone := text[token.At:token.End]
			tokens, e, at := lex.Lex(alone)
			if want := list(placed(0, len(alone), token)); e != api.OK || at != 0 || !slices.Equal(tokens, want) {
				t.Errorf("Lex(%q) = %v, %d, %d; want %v", alone, tokens, e, at, want)
			}
		}
	}
}

// P3.5.
func TestStrip(t *testing.T) {
	stripped := 0
	for _, text := range goodTexts(t, 51) {
		s, e, at := lex.Strip(text)
		if e != api.OK || at != 0 || len(s) > len(text) {
			t.Errorf("Strip(%q) = %q, %d, %d", text, s, e, at)
		}
		wantSame(t, s, tokensOf(t, text))
		wantComments(t, s, nil, api.OK, 0)
		if s != text {
			stripped++
		}
	}
	if stripped < 300 {
		t.Errorf("%d texts with comments only", stripped)
	}
}

// P3.6.
func TestParts(t *testing.T) {
	texts := goodTexts(t, 61)
	r := rand.New(rand.NewSource(62))
	joined := 0
	for _, first := range texts {
		second := texts[r.Intn(len(texts))]
		a, b := tokensOf(t, first), tokensOf(t, second)
		if len(a) > 0 && placed(0, 0, a[len(a)-1]) == word("end") {
			continue
		}
		joined++
		want := slices.Clone(a)
		for _, token := range b {
			want = append(want, placed(token.At+len(first)+1, token.End+len(first)+1, token))
		}
		wantTokens(t, first+"\n"+second, want...)
	}
	if joined < 500 {
		t.Errorf("%d texts joined only", joined)
	}
}

// P3.7.
func TestErrors(t *testing.T) {
	failed := 0
	texts := append(mixedTexts(71, 8000), "", "begin comment a; comment b", "end x; 1.5.2", "end $ else $", "; comment a; \"b", "x y comment z;", "abc 12a", "a:=b.c")
	for _, text := range texts {
		_, e, at := lex.Lex(text)
		if e == api.OK {
			continue
		}
		failed++
		if at < 0 || at >= len(text) {
			t.Errorf("Lex(%q): error %d at %d", text, e, at)
			continue
		}
		if _, again, where := lex.Lex(text[:at]); again != api.OK || where != 0 {
			t.Errorf("Lex(%q): error %d at %d; ahead of it error %d at %d", text, e, at, again, where)
		}
		wantReading(t, text[:at])
	}
	if failed < 1000 {
		t.Errorf("%d texts with errors only", failed)
	}
	many := strings.Repeat(";", api.MaxTokens) + " x"
	if _, e, at := lex.Lex(many); e != api.ErrLimit || len(tokensOf(t, many[:at])) != api.MaxTokens {
		t.Errorf("error %d at %d", e, at)
	}
}

// P3.8.
func TestBlanksInFront(t *testing.T) {
	for _, text := range goodTexts(t, 81)[:1000] {
		tokens := tokensOf(t, text)
		for i, token := range tokens {
			for _, blank := range []string{" ", "\t", "\n", "\r"} {
				longer := text[:token.At] + blank + text[token.At:]
				wantSame(t, longer, tokens)
				if moved := tokensOf(t, longer); moved[i].At != token.At+1 || moved[i].End != token.End+1 {
					t.Errorf("the token %+v of %q is %+v in %q", token, text, moved[i], longer)
				}
			}
		}
	}
}

// changed returns a list that has been changed a little.
func changed(r *rand.Rand, l []api.Token) []api.Token {
	l = slices.Clone(l)
	for range r.Intn(3) {
		i := r.Intn(len(l) + 1)
		l = slices.Insert(l, i, placed(r.Intn(99), r.Intn(99), mixedToken(r)))
		i = r.Intn(len(l))
		l = slices.Delete(l, i, min(i+r.Intn(3), len(l)))
	}
	return l
}

// P3.9.
func TestDifferences(t *testing.T) {
	r := rand.New(rand.NewSource(91))
	for _, a := range append(mixedTokens(92, 3000), namesOf("aaaa"), namesOf("abab"), namesOf("abcabc")) {
		for _, b := range [][]api.Token{changed(r, a), a[:len(a)/2], append(slices.Clone(a), a...), nil} {
			head, tail := lex.Diff(a, b)
			if head < 0 || tail < 0 || head+tail > min(len(a), len(b)) {
				t.Fatalf("Diff(%v, %v) = %d, %d", a, b, head, tail)
			}
			other := slices.Concat(a[:head], b[head:len(b)-tail], a[len(a)-tail:])
			if !lex.Same(other, b) {
				t.Errorf("Diff(%v, %v) = %d, %d", a, b, head, tail)
			}
			for more := head + 1; more <= min(len(a), len(b)); more++ {
				if lex.Same(a[:more], b[:more]) {
					t.Errorf("Diff(%v, %v) = %d, %d: the head could be %d", a, b, head, tail, more)
				}
			}
			for more := tail + 1; head+more <= min(len(a), len(b)); more++ {
				if lex.Same(a[len(a)-more:], b[len(b)-more:]) {
					t.Errorf("Diff(%v, %v) = %d, %d: the tail could be %d", a, b, head, tail, more)
				}
			}
		}
	}
}

// P3.10: Find finds each token at each of its bytes, and nothing at the others.
func TestOffsetsOfTokens(t *testing.T) {
	for _, text := range goodTexts(t, 101) {
		tokens := tokensOf(t, text)
		at := -1
		for i, token := range tokens {
			for ; at < token.At; at++ {
				if at < 0 || i == 0 || at >= tokens[i-1].End {
					wantFind(t, tokens, at, -1)
				}
			}
			for ; at < token.End; at++ {
				wantFind(t, tokens, at, i)
			}
		}
		for ; at <= len(text); at++ {
			wantFind(t, tokens, at, -1)
		}
	}
}

// P3.10: offsets grow with lines, and within a line with columns.
func TestOffsetsAndLines(t *testing.T) {
	texts := append(goodTexts(t, 111), mixedTexts(112, 500)...)
	for _, text := range append(texts, "\n\n\n", "a\n\r\nb\n", "\r\n\x00\xff\n") {
		line, column, e := lex.Line(text, 0)
		if line != 1 || column != 1 || e != api.OK {
			t.Errorf("Line(%q, 0) = %d, %d, %d", text, line, column, e)
		}
		for at := 1; at <= len(text); at++ {
			l, c, e := lex.Line(text, at)
			next, begin := l == line && c == column+1, l == line+1 && c == 1
			if e != api.OK || text[at-1] == '\n' && !begin || text[at-1] != '\n' && !next {
				t.Errorf("Line(%q, %d) = %d, %d, %d, behind %d, %d", text, at, l, c, e, line, column)
			}
			line, column = l, c
		}
		if _, _, e := lex.Line(text, len(text)+1); e != api.ErrArg {
			t.Errorf("Line(%q, %d): error %d", text, len(text)+1, e)
		}
	}
}
