package lex_test

import (
	"slices"
	"strings"
	"testing"

	"manorboy/lex"
)

// P3.1, L1: the words and the signs, in their order, in new memory each time.
func TestWordsAndSigns(t *testing.T) {
	for _, x := range []struct {
		name string
		f    func() []string
		want []string
	}{{"Words", lex.Words, reservedWords()}, {"Signs", lex.Signs, signTexts()}} {
		got := x.f()
		if !slices.Equal(got, x.want) {
			t.Errorf("%s() = %q; want %q", x.name, got, x.want)
		}
		for i := range got {
			got[i] = "changed"
		}
		_ = append(got[:1], "changed", "changed")
		if again := x.f(); !slices.Equal(again, x.want) {
			t.Errorf("%s() = %q, after its result has been changed", x.name, again)
		}
	}
	if !lex.IsWord("begin") || lex.IsWord("changed") || !lex.Valid(sign("+")) || lex.Valid(sign("changed")) {
		t.Error("a change of a result changes what is a word or a sign")
	}
}

// P3.1, L2.
func TestIsWord(t *testing.T) {
	for _, s := range reservedWords() {
		if !lex.IsWord(s) {
			t.Errorf("IsWord(%q) = false", s)
		}
		for _, other := range []string{s + " ", " " + s, s + "1", s + s, s[1:], s[:len(s)-1], strings.ToUpper(s), strings.ToUpper(s[:1]) + s[1:], "x" + s} {
			if lex.IsWord(other) && !slices.Contains(reservedWords(), other) {
				t.Errorf("IsWord(%q) = true", other)
			}
		}
	}
	for _, s := range append(signTexts(), "", " ", "x", "7", "\"", "int", "bool", "divide", "elseif", "begin end", "begin\x00") {
		if lex.IsWord(s) {
			t.Errorf("IsWord(%q) = true", s)
		}
	}
}

// P3.1, L2: a letter, then letters and digits, at most 16 bytes, no reserved word.
func TestIsName(t *testing.T) {
	for _, s := range []string{"x", "a", "z", "x1", "a0", "z9", "man", "boy", "end1", "begins", "comments", "e", "e5", "elsea", "xend", "iff", "abcdefghijklmnop", "a123456789012345", "a000000000000000"} {
		if !lex.IsName(s) {
			t.Errorf("IsName(%q) = false", s)
		}
	}
	others := append(reservedWords(), signTexts()...)
	for _, s := range append(others, "", " ", "0", "1x", "9", "x y", "x ", " x", "x_1", "_", "X", "xY", "Xy", "x.y", "x\n", "x\x00", "\x00", "é", "xé", "x\"", "\"x\"", "abcdefghijklmnopq", "a1234567890123456", strings.Repeat("x", 1000), "x{", "x`", "x/", "x:") {
		if lex.IsName(s) {
			t.Errorf("IsName(%q) = true", s)
		}
	}
}

// P3.1, L2: which bytes can stand first, and which ones behind the first.
func TestIsNameOfBytes(t *testing.T) {
	for b := range 256 {
		letter, digit := 'a' <= b && b <= 'z', '0' <= b && b <= '9'
		s := string([]byte{byte(b)})
		if lex.IsName(s) != letter {
			t.Errorf("IsName(%q) = %t", s, !letter)
		}
		for _, text := range []string{"q" + s, "q" + s + "q", "q" + s + "1"} {
			if lex.IsName(text) != (letter || digit) {
				t.Errorf("IsName(%q) = %t", text, !(letter || digit))
			}
		}
		if text := s + "q"; lex.IsName(text) != letter {
			t.Errorf("IsName(%q) = %t", text, !letter)
		}
	}
}
