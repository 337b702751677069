package parse

import (
	"iter"

	"manorboy/api"
	"manorboy/lex"
)

// repairs yields the repairs of so many tokens, of which the one with the index wrong (or the end) is the first wrong one: in the order of S13.
func repairs(count, wrong int) iter.Seq[api.Fix] {
	return func(yield func(api.Fix) bool) {
		tokens := insertions()
		for index := wrong; index >= 0; index-- {
			if index < count && !yield(api.Fix{Drop: true, Index: index}) {
				return
			}
			for _, t := range tokens {
				if !yield(api.Fix{Index: index, Put: t}) {
					return
				}
			}
		}
	}
}

// insertions returns the tokens that a repair can insert, in their order.
func insertions() []api.Token {
	var list []api.Token
	for _, sign := range lex.Signs() {
		list = append(list, tokenOf(sign))
	}
	for _, word := range lex.Words() {
		if word != "comment" {
			list = append(list, tokenOf(word))
		}
	}
	return append(list, nameToken(), api.Token{Kind: api.TkInt})
}
