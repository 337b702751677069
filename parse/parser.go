package parse

import (
	"slices"

	"manorboy/api"
)

// parser reads programs by the rules of the syntax, each of which has a method. A method goes past the tokens of its rule and no further, and past a token only once that is known to be right there: so what it fails at is the first wrong one.
type parser struct {
	source
	// spans are those of the parts that have ended and lie in no other such part. The next part to end takes those that it contains.
	spans []span
	// fault is the first faulty identifier among formal parameters. Its error is OK if there is none.
	fault mistake
}

// span is where a part lies: the tokens from the index first up to, but not including, end. So do its own parts, in their order.
type span struct {
	first, end int
	parts      []span
}

// start is where a part begins: the index of its first token, and how many spans there were.
type start struct {
	token, spans int
}

func newParser(l []api.Token) *parser {
	return &parser{source: source{tokens: l}}
}

// begin returns where a part begins that the next token belongs to.
func (p *parser) begin() start {
	return start{token: p.at, spans: len(p.spans)}
}

// end ends a part: the parts that have ended since it began are its own.
func (p *parser) end(from start) {
	parts := slices.Clone(p.spans[from.spans:])
	p.spans = append(p.spans[:from.spans], span{first: from.token, end: p.at, parts: parts})
}

// unlimited is more than the number of elements of any list of tokens.
const unlimited = api.MaxTokens

// listOf reads a list by the rule for its elements, of which there is at least one, with a sign between each two of them.
func listOf[T any](p *parser, sign string, most int, element func() T) []T {
	list := []T{element()}
	for len(list) < most && p.takes(sign) {
		list = append(list, element())
	}
	return list
}

// whole reads all tokens by a rule, or returns the first wrong one.
func whole[T any](p *parser, rule func() T) (part T, e api.Errno, index int) {
	defer func() {
		if m, wrong := recover().(mistake); wrong {
			var none T
			part, e, index = none, m.e, m.at
		}
	}()
	part = rule()
	if !p.done() {
		p.fail(api.ErrForm)
	}
	return part, api.OK, 0
}

// read reads all tokens by a rule, or returns the first of the errors of S4. placeOf says where a token is that is the cause of one.
func read[T any](p *parser, rule func() T, check func(T) api.Errno, placeOf func(int) int) (part T, e api.Errno, at int) {
	var none T
	part, e, index := whole(p, rule)
	if e == api.OK {
		e, index = p.fault.e, p.fault.at
	}
	if e != api.OK {
		return none, e, placeOf(index)
	}
	if e := check(part); e != api.OK {
		return none, e, 0
	}
	return part, api.OK, 0
}

// pieces appends to a list the pieces of the text of a part and of its own parts, in the order of their numbers.
func (p *parser) pieces(list []api.Piece, s span) []api.Piece {
	list = append(list, p.piece(s))
	for _, part := range s.parts {
		list = p.pieces(list, part)
	}
	return list
}

// piece returns the piece of the text of a part. One without tokens is an empty statement, and there is a token ahead of it.
func (p *parser) piece(s span) api.Piece {
	end := p.tokens[s.end-1].End
	if s.first == s.end {
		return api.Piece{At: end, End: end}
	}
	return api.Piece{At: p.tokens[s.first].At, End: end}
}
