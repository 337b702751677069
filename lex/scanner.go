package lex

import (
	"strings"

	"manorboy/api"
	"manorboy/integer"
	"manorboy/real"
)

// failure is why a text has no tokens, and where.
type failure struct {
	e  api.Errno
	at int
}

// scanner reads the tokens of a text; start is where the one that it reads begins.
type scanner struct {
	position
	start  int
	tokens []api.Token
}

// fail gives up: the token or comment that is being read is wrong.
func (s *scanner) fail(e api.Errno) {
	panic(failure{e: e, at: s.start})
}

// readAll reads the tokens up to the end of the text.
func (s *scanner) readAll() {
reading:
	for {
		s.take(blank)
		s.start = s.at
		ahead := s.position
		switch {
		case s.done():
			break reading
		case ahead.take(inRun) == commentWord:
			s.readComment()
			continue reading
		case len(s.tokens) == api.MaxTokens:
			s.fail(api.ErrLimit)
		}
		s.readToken()
	}
}

// readComment reads a comment that begins with its word: L4.
func (s *scanner) readComment() {
	if !s.mayComment() || !s.passComment() {
		s.fail(api.ErrForm)
	}
}

// mayComment reports whether a comment can stand behind the last token.
func (s *scanner) mayComment() bool {
	if len(s.tokens) == 0 {
		return false
	}
	last := s.tokens[len(s.tokens)-1]
	return is(last, api.TkSign, semicolonSign) || is(last, api.TkWord, beginWord)
}

// readToken reads a token: L6 to L9.
func (s *scanner) readToken() {
	switch {
	case s.sees(digit):
		s.readNumber()
	case s.sees(inRun):
		s.readWord()
	case s.has('"'):
		s.readString()
	default:
		s.readSign()
	}
}

// add keeps a token, which extends from start to where the scanner is.
func (s *scanner) add(token api.Token) {
	token.At, token.End = s.start, s.at
	s.tokens = append(s.tokens, token)
}

// readWord reads a reserved word or an identifier: L6.
func (s *scanner) readWord() {
	text := s.take(inRun)
	switch {
	case !IsWord(text) && len(text) > api.MaxName:
		s.fail(api.ErrLimit)
	case !IsWord(text):
		s.add(api.Token{Kind: api.TkName, Text: text})
	default:
		s.add(api.Token{Kind: api.TkWord, Text: text})
		if text == endWord {
			s.passBehindEnd()
		}
	}
}

// passBehindEnd goes past what has no meaning behind the word end.
func (s *scanner) passBehindEnd() {
skipping:
	for !s.done() && !s.has(';') {
		ahead := s.position
		switch ahead.take(inRun) {
		case endWord, elseWord:
			break skipping
		case "":
			// The byte here is in no run.
			ahead.at++
		}
		s.position = ahead
	}
}

// readNumber reads an integer or a real number: L7.
func (s *scanner) readNumber() {
	whole := s.take(digit)
	s.passFraction()
	s.passExponent()
	if s.sees(inRun) || s.has('.') {
		s.fail(api.ErrForm)
	}
	token, e := numberOf(whole, s.text[s.start:s.at])
	if e != api.OK {
		s.fail(e)
	}
	s.add(token)
}

// numberOf returns the token of a number, of which the digits at its beginning are given, too.
func numberOf(whole, text string) (api.Token, api.Errno) {
	if whole == text {
		n, e := integer.Parse(text)
		return api.Token{Kind: api.TkInt, N: n}, e
	}
	x, e := real.Parse(text)
	return api.Token{Kind: api.TkReal, Real: x}, e
}

// readString reads a string: L8.
func (s *scanner) readString() {
	s.pass('"')
	text := s.take(inString)
	// What ends the bytes that may stand here has to be the quotation mark, wherever the next one is.
	if !s.pass('"') {
		s.fail(api.ErrForm)
	}
	if len(text) > api.MaxText {
		s.fail(api.ErrLimit)
	}
	s.add(api.Token{Kind: api.TkString, Text: text})
}

// readSign reads the longest sign that is here: L9.
func (s *scanner) readSign() {
	longest := ""
	for _, sign := range signs {
		if len(sign) > len(longest) && strings.HasPrefix(s.text[s.at:], sign) {
			longest = sign
		}
	}
	if longest == "" {
		s.fail(api.ErrForm)
	}
	s.at += len(longest)
	s.add(api.Token{Kind: api.TkSign, Text: longest})
}
