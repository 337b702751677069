package lex

import (
	"slices"

	"manorboy/api"
)

// words are the reserved words, in the order of the document.
var words = []string{
	"begin", "end", "if", "then", "else", "for", "do", "step", "until", "while", "goto", "own", "integer", "real",
	"boolean", "array", "switch", "procedure", "value", "label", "string", "true", "false", "comment", "not", "and", "or", "imp", "eqv",
}

// signs are the signs, in the order of the document.
var signs = []string{
	"+", "-", "*", "/", "//", "^", "<", "<=", "=", "/=", ">=", ">", ":=", ":", ";", ",", "(", ")", "[", "]",
}

// The words and the sign that matter for where comments are.
const (
	beginWord     = "begin"
	endWord       = "end"
	elseWord      = "else"
	commentWord   = "comment"
	semicolonSign = ";"
)

// Words returns the reserved words: L1.
func Words() []string {
	return slices.Clone(words)
}

// Signs returns the signs: L1.
func Signs() []string {
	return slices.Clone(signs)
}

// IsWord reports whether s is a reserved word: L2.
func IsWord(s string) bool {
	return slices.Contains(words, s)
}

// IsName reports whether s is an identifier: L2.
func IsName(s string) bool {
	return s != "" && len(s) <= api.MaxName && !areAll(s[:1], digit) && areAll(s, inRun) && !IsWord(s)
}

// isSign reports whether s is a sign.
func isSign(s string) bool {
	return slices.Contains(signs, s)
}
