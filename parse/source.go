package parse

import (
	"slices"

	"manorboy/api"
	"manorboy/lex"
)

// mistake is an error, and the index of the token that is the cause of it.
type mistake struct {
	e  api.Errno
	at int
}

// source hands out tokens, one after the other. One that drafts makes up the tokens that are needed behind the last one.
type source struct {
	tokens []api.Token
	at     int // the index of the next token
	open   int // how many more tokens ahead of it open than close
	drafts bool
	made   []api.Token
}

// fail gives up: the next token, or the end, is wrong.
func (s *source) fail(e api.Errno) {
	panic(mistake{e: e, at: s.at})
}

// done reports whether no token is left.
func (s *source) done() bool {
	return s.at == len(s.tokens)
}

// kind returns the kind of the next token, or 0 at the end.
func (s *source) kind() int {
	if s.done() {
		return 0
	}
	return s.tokens[s.at].Kind
}

// mark returns the text of the next token, or of the one that is so many tokens further ahead, if it is a sign or a word, and "" if not.
func (s *source) mark(ahead int) string {
	if s.at+ahead >= len(s.tokens) {
		return ""
	}
	t := s.tokens[s.at+ahead]
	if t.Kind != api.TkSign && t.Kind != api.TkWord {
		return ""
	}
	return t.Text
}

// sees reports whether the next token is one of these signs and words.
func (s *source) sees(marks ...string) bool {
	return slices.Contains(marks, s.mark(0))
}

// pass goes past the next token, which is right by the syntax.
func (s *source) pass() {
	switch s.mark(0) {
	case "(", "[", "begin":
		s.open++
	case ")", "]", "end":
		s.open--
	}
	if s.open > api.MaxOpen {
		s.fail(api.ErrLimit)
	}
	s.at++
}

// takes goes past the next token if it is this sign or word, and reports whether it was.
func (s *source) takes(mark string) bool {
	if s.mark(0) != mark {
		return false
	}
	s.pass()
	return true
}

// need goes past the next token, which has to be this sign or word.
func (s *source) need(mark string) {
	if !s.takes(mark) {
		s.makeUp(tokenOf(mark))
	}
}

// name goes past the next token, which has to be an identifier, and returns it.
func (s *source) name() string {
	if s.kind() != api.TkName {
		s.makeUp(nameToken())
		return ""
	}
	name := s.tokens[s.at].Text
	s.pass()
	return name
}

// makeUp puts a token where it is missing, if that is at the end of a draft. Anywhere else the next token is wrong.
func (s *source) makeUp(t api.Token) {
	if !s.drafts || !s.done() {
		s.fail(api.ErrForm)
	}
	s.made = append(s.made, t)
}

// tokenOf returns the token of a sign or a word.
func tokenOf(mark string) api.Token {
	if lex.IsWord(mark) {
		return api.Token{Kind: api.TkWord, Text: mark}
	}
	return api.Token{Kind: api.TkSign, Text: mark}
}

// nameToken returns the identifier that stands wherever any would do.
func nameToken() api.Token {
	return api.Token{Kind: api.TkName, Text: "x"}
}
