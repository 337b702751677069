package lex

import (
	"slices"
	"strings"

	"manorboy/api"
	"manorboy/integer"
	"manorboy/real"
)

// Valid reports whether a token is valid: L12.
func Valid(t api.Token) bool {
	switch t.Kind {
	case api.TkWord:
		return hasTextAlone(t) && IsWord(t.Text) && t.Text != commentWord
	case api.TkName:
		return hasTextAlone(t) && IsName(t.Text)
	case api.TkInt:
		return t.Text == "" && t.Real == api.Real{} && 0 <= t.N && t.N <= api.MaxInt
	case api.TkReal:
		return t.Text == "" && t.N == 0 && real.Valid(t.Real) && t.Real.Man >= 0
	case api.TkString:
		return hasTextAlone(t) && len(t.Text) <= api.MaxText && areAll(t.Text, inString)
	case api.TkSign:
		return hasTextAlone(t) && isSign(t.Text)
	}
	return false
}

// Check reports whether tokens can be those of a text: L13.
func Check(l []api.Token) (api.Errno, int) {
	if len(l) > api.MaxTokens {
		return api.ErrLimit, 0
	}
	for i, t := range l {
		behindEnd := i > 0 && is(l[i-1], api.TkWord, endWord)
		if !Valid(t) || behindEnd && !mayFollowEnd(t) {
			return api.ErrForm, i
		}
	}
	return api.OK, 0
}

// Print returns a text with these tokens: L14.
func Print(l []api.Token) (string, api.Errno, int) {
	if e, i := Check(l); e != api.OK {
		return "", e, i
	}
	var text strings.Builder
	for i, t := range l {
		if i > 0 {
			text.WriteByte(' ')
		}
		text.WriteString(textOf(t))
		if text.Len() > api.MaxSource {
			return "", api.ErrLimit, 0
		}
	}
	return text.String(), api.OK, 0
}

// Same reports whether two lists of tokens are the same but for offsets: L15.
func Same(a, b []api.Token) bool {
	return slices.EqualFunc(a, b, equal)
}

// Diff returns how many tokens at the beginning, and how many at the end, two lists have in common: L16.
func Diff(a, b []api.Token) (head, tail int) {
	shorter := min(len(a), len(b))
	for head < shorter && equal(a[head], b[head]) {
		head++
	}
	for tail < shorter-head && equal(a[len(a)-1-tail], b[len(b)-1-tail]) {
		tail++
	}
	return head, tail
}

// Find returns the index of the first token at an offset: L17. (The offsets of any list need not grow, so it goes over all of them.)
func Find(l []api.Token, at int) (int, api.Errno) {
	for i, t := range l {
		if t.At <= at && at < t.End {
			return i, api.OK
		}
	}
	return 0, api.ErrNone
}

// is reports whether a token is the one of a kind with a text.
func is(t api.Token, kind int, text string) bool {
	return t.Kind == kind && t.Text == text
}

// equal reports whether two tokens are equal but for their offsets.
func equal(a, b api.Token) bool {
	a.At, a.End = b.At, b.End
	return a == b
}

// hasTextAlone reports whether a token has no number.
func hasTextAlone(t api.Token) bool {
	return t.N == 0 && t.Real == api.Real{}
}

// mayFollowEnd reports whether a token can follow the word end directly, behind which all others would be a comment.
func mayFollowEnd(t api.Token) bool {
	return is(t, api.TkSign, semicolonSign) || is(t, api.TkWord, endWord) || is(t, api.TkWord, elseWord)
}

// textOf returns the text of a valid token.
func textOf(t api.Token) string {
	text := t.Text
	switch t.Kind {
	case api.TkInt:
		text, _ = integer.Print(t.N)
	case api.TkReal:
		text, _ = real.Print(t.Real)
	case api.TkString:
		text = `"` + t.Text + `"`
	}
	return text
}
