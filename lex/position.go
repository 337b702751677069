package lex

import "strings"

// class is a set of what a byte can be.
type class uint8

const (
	blank class = 1 << iota
	digit
	inRun    // letters and digits
	inString // what may stand between quotation marks
)

// classOf returns what a byte is.
func classOf(b byte) class {
	c := class(0)
	switch {
	case b == ' ':
		c |= inString
		fallthrough
	case b == '\t' || b == '\n' || b == '\r':
		c |= blank
	case '0' <= b && b <= '9':
		c |= digit
		fallthrough
	case 'a' <= b && b <= 'z':
		c |= inRun
		fallthrough
	case ' ' < b && b <= '~' && b != '"':
		c |= inString
	}
	return c
}

// areAll reports whether all bytes of a string are of a class.
func areAll(s string, c class) bool {
	for i := range len(s) {
		if classOf(s[i])&c == 0 {
			return false
		}
	}
	return true
}

// position is a place in a text. A copy of it is a place to try from.
type position struct {
	text string
	at   int
}

// done reports whether the text ends here.
func (p *position) done() bool {
	return p.at == len(p.text)
}

// sees reports whether the byte here is of a class.
func (p *position) sees(c class) bool {
	return !p.done() && classOf(p.text[p.at])&c != 0
}

// has reports whether the byte here is b.
func (p *position) has(b byte) bool {
	return !p.done() && p.text[p.at] == b
}

// take goes past the bytes of a class, and returns them.
func (p *position) take(c class) string {
	from := p.at
	for p.sees(c) {
		p.at++
	}
	return p.text[from:p.at]
}

// pass goes past the byte b, if it is here, and reports whether it was.
func (p *position) pass(b byte) bool {
	if !p.has(b) {
		return false
	}
	p.at++
	return true
}

// passFraction goes past a point and digits, if both are here.
func (p *position) passFraction() {
	ahead := *p
	if ahead.pass('.') && ahead.take(digit) != "" {
		*p = ahead
	}
}

// passExponent goes past the letter e, a sign or none, and digits, if they are here.
func (p *position) passExponent() {
	ahead := *p
	if !ahead.pass('e') {
		return
	}
	if !ahead.pass('+') {
		ahead.pass('-')
	}
	if ahead.take(digit) != "" {
		*p = ahead
	}
}

// passComment goes past a comment of L4, and reports whether it has an end.
func (p *position) passComment() bool {
	length := 1 + strings.IndexByte(p.text[p.at:], ';')
	p.at += length
	return length > 0
}

// passAllButBlanks goes past what there is up to the end, but for blanks behind it. The byte here is no blank, so the way back ends there at the latest.
func (p *position) passAllButBlanks() {
	p.at = len(p.text)
	for classOf(p.text[p.at-1])&blank != 0 {
		p.at--
	}
}
