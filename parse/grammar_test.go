package parse_test

import (
	"slices"
	"strconv"
	"strings"

	"manorboy/api"
)

// A second reading of the syntax: the rules of the chapter as they stand there, and a recognizer for any rules, after Earley.

// chapterRules are the rules of the chapter. What it says of "closed" in words is done in readGrammar.
const chapterRules = `
program     = { identifier ":" } "begin" body "end"
statement   = { identifier ":" } unlabelled
closed      = { identifier ":" } unconditional
unlabelled  = nothing
            | target ":=" { target ":=" } expression
            | "goto" expression
            | "if" expression "then" closed [ "else" statement ]
            | "for" target ":=" (element separated by ",") "do" statement
            | identifier [ "(" (1 to 8 expressions separated by ",") ")" ]
            | "begin" body "end"
body        = { declaration ";" } (statement separated by ";")
target      = identifier [ "[" (1 to 4 expressions separated by ",") "]" ]
element     = expression [ "step" expression "until" expression | "while" expression ]

declaration = variables | arrays | "switch" identifier ":=" (expression separated by ",") | procedure
type        = "integer" | "real" | "boolean"
variables   = [ "own" ] type (identifier separated by ",")
arrays      = [ [ "own" ] type ] "array" (segment separated by ",")
segment     = (identifier separated by ",") "[" (1 to 4 bounds separated by ",") "]"
bounds      = expression ":" expression
procedure   = [ type ] "procedure" identifier [ "(" (1 to 8 identifiers separated by ",") ")" ] ";"
              [ "value" (identifier separated by ",") ";" ]
              { specifier (identifier separated by ",") ";" } statement
specifier   = type | [ type ] "array" | [ type ] "procedure" | "label" | "switch" | "string"

expression  = "if" level1 "then" level1 "else" expression | level1
level1      = level2 { "eqv" level2 }
level2      = level3 { "imp" level3 }
level3      = level4 { "or" level4 }
level4      = level5 { "and" level5 }
level5      = [ "not" ] level6
level6      = level7 [ ( "<" | "<=" | "=" | "/=" | ">=" | ">" ) level7 ]
level7      = [ "+" | "-" ] level8 { ( "+" | "-" ) level8 }
level8      = level9 { ( "*" | "/" | "//" ) level9 }
level9      = level10 { "^" level10 }
level10     = integer | real | string | "true" | "false" | identifier
            | identifier "[" (1 to 4 expressions separated by ",") "]"
            | identifier "(" (1 to 8 expressions separated by ",") ")"
            | "(" expression ")"
`

// grammar has, for each symbol that is none of a token, the sequences of symbols that it stands for. Symbols of tokens are signs and words in quotation marks, and the names of the other kinds.
type grammar struct {
	rules map[string][][]string
	empty map[string]bool
	fresh int
	// The same by numbers of symbols.
	numbers    map[string]int
	sequences  [][][]int
	canBeEmpty []bool
	// What sentences are made of.
	tokens map[string]api.Token
	least  map[string]least
}

func readGrammar() *grammar {
	g := &grammar{rules: map[string][][]string{}, empty: map[string]bool{}, numbers: map[string]int{}, tokens: map[string]api.Token{}}
	r := &ruleReader{grammar: g, words: ruleWords(chapterRules)}
	for r.at < len(r.words) {
		name := r.next()
		r.next() // =
		g.rules[name] = r.alternatives()
	}
	for _, sequence := range g.rules["unlabelled"] {
		if len(sequence) == 0 || sequence[0] != `"if"` && sequence[0] != `"for"` {
			g.rules["unconditional"] = append(g.rules["unconditional"], sequence)
		}
	}
	g.findEmpty()
	for _, t := range allTokens() {
		g.tokens[symbolOf(t)] = t
	}
	return g
}

// ruleWords divides rules into words. Brackets stand for themselves where no quotation marks are around them.
func ruleWords(text string) []string {
	var words []string
	for _, field := range strings.Fields(text) {
		for len(field) > 1 && !strings.HasPrefix(field, `"`) && strings.ContainsAny(field[:1], "([{") {
			words = append(words, field[:1])
			field = field[1:]
		}
		var behind []string
		for len(field) > 1 && !strings.HasSuffix(field, `"`) && strings.ContainsAny(field[len(field)-1:], ")]}") {
			behind = append(behind, field[len(field)-1:])
			field = field[:len(field)-1]
		}
		words = append(words, field)
		words = append(words, behind...)
	}
	return words
}

type ruleReader struct {
	*grammar
	words []string
	at    int
}

func (r *ruleReader) peek(ahead int) string {
	if r.at+ahead >= len(r.words) {
		return ""
	}
	return r.words[r.at+ahead]
}

func (r *ruleReader) next() string {
	r.at++
	return r.words[r.at-1]
}

// define adds a new symbol for sequences.
func (g *grammar) define(sequences ...[]string) string {
	g.fresh++
	name := "#" + strconv.Itoa(g.fresh)
	g.rules[name] = sequences
	return name
}

func (r *ruleReader) alternatives() [][]string {
	list := [][]string{r.sequence()}
	for r.peek(0) == "|" {
		r.next()
		list = append(list, r.sequence())
	}
	return list
}

func (r *ruleReader) sequence() []string {
	var symbols []string
	for r.peek(0) != "" && !slices.Contains([]string{"|", ")", "]", "}"}, r.peek(0)) && r.peek(1) != "=" {
		if symbol := r.symbol(); symbol != "nothing" {
			symbols = append(symbols, symbol)
		}
	}
	return symbols
}

func (r *ruleReader) symbol() string {
	word := r.next()
	switch word {
	case "[":
		inner := r.alternatives()
		r.next()
		return r.define(append(inner, nil)...)
	case "{":
		once := r.define(r.alternatives()...)
		r.next()
		many := r.define(nil)
		r.rules[many] = append(r.rules[many], []string{many, once})
		return many
	case "(":
		if r.peek(1) == "separated" || r.peek(1) == "to" {
			return r.list()
		}
		inner := r.alternatives()
		r.next()
		return r.define(inner...)
	}
	return word
}

// list reads a list with a separator, behind its parenthesis.
func (r *ruleReader) list() string {
	most := 0
	if r.peek(1) == "to" {
		r.at += 2
		most, _ = strconv.Atoi(r.next())
	}
	element := r.next()
	if most > 0 && element != "bounds" {
		element = strings.TrimSuffix(element, "s")
	}
	r.at += 2 // separated by
	separator := r.next()
	r.next()
	if most == 0 {
		list := r.define([]string{element})
		r.rules[list] = append(r.rules[list], []string{list, separator, element})
		return list
	}
	list := r.define([]string{element})
	for range most - 1 {
		list = r.define([]string{element}, []string{element, separator, list})
	}
	return list
}

func (g *grammar) findEmpty() {
	for changed := true; changed; {
		changed = false
		for name, sequences := range g.rules {
			for _, sequence := range sequences {
				if !g.empty[name] && !slices.ContainsFunc(sequence, func(s string) bool { return !g.empty[s] }) {
					g.empty[name] = true
					changed = true
				}
			}
		}
	}
}

// number returns the number of a symbol, which it gets when it is first asked for. What it stands for is numbered with it.
func (g *grammar) number(symbol string) int {
	if n, known := g.numbers[symbol]; known {
		return n
	}
	n := len(g.numbers)
	g.numbers[symbol] = n
	g.sequences = append(g.sequences, nil)
	g.canBeEmpty = append(g.canBeEmpty, g.empty[symbol])
	for _, sequence := range g.rules[symbol] {
		var numbers []int
		for _, inner := range sequence {
			numbers = append(numbers, g.number(inner))
		}
		g.sequences[n] = append(g.sequences[n], numbers)
	}
	return n
}

// item is a sequence of a symbol that has been recognized up to the symbol with the index dot, since the token with the index from.
type item struct {
	symbol, sequence, dot, from int
}

// recognizer recognizes tokens one by one. Ahead of each token, and behind the last one, it has the items that wait for each symbol, and those that are complete.
type recognizer struct {
	*grammar
	start    int
	waiting  []map[int][]item
	finished []item
}

func (g *grammar) recognizer(start string) *recognizer {
	r := &recognizer{grammar: g, start: g.number(start)}
	var first []item
	for i := range g.sequences[r.start] {
		first = append(first, item{symbol: r.start, sequence: i})
	}
	r.add(first)
	return r
}

// ahead returns the symbol behind what has been recognized of an item, or -1.
func (g *grammar) ahead(i item) int {
	sequence := g.sequences[i.symbol][i.sequence]
	if i.dot == len(sequence) {
		return -1
	}
	return sequence[i.dot]
}

// add adds these items, and all that follow from them, behind the last token.
func (r *recognizer) add(items []item) {
	at := len(r.waiting)
	waiting := map[int][]item{}
	r.waiting = append(r.waiting, waiting)
	r.finished = nil
	known := map[item]bool{}
	var todo []item
	put := func(i item) {
		if !known[i] {
			known[i] = true
			todo = append(todo, i)
		}
	}
	for _, i := range items {
		put(i)
	}
	for len(todo) > 0 {
		i := todo[len(todo)-1]
		todo = todo[:len(todo)-1]
		symbol := r.ahead(i)
		if symbol < 0 {
			r.finished = append(r.finished, i)
			for _, outer := range r.waiting[i.from][i.symbol] {
				outer.dot++
				put(outer)
			}
			continue
		}
		if waiting[symbol] == nil {
			for sequence := range r.sequences[symbol] {
				put(item{symbol: symbol, sequence: sequence, from: at})
			}
		}
		waiting[symbol] = append(waiting[symbol], i)
		// What is complete from here to here has nothing in it: it may have been completed before this item came.
		if r.canBeEmpty[symbol] {
			i.dot++
			put(i)
		}
	}
}

// symbolOf returns the symbol of a token in the rules.
func symbolOf(t api.Token) string {
	switch t.Kind {
	case api.TkName:
		return "identifier"
	case api.TkInt:
		return "integer"
	case api.TkReal:
		return "real"
	case api.TkString:
		return "string"
	}
	return `"` + t.Text + `"`
}

// expects reports whether a token can be the next one.
func (r *recognizer) expects(t api.Token) bool {
	return len(r.waiting[len(r.waiting)-1][r.number(symbolOf(t))]) > 0
}

// complete reports whether the tokens up to here are those of the start symbol.
func (r *recognizer) complete() bool {
	return slices.ContainsFunc(r.finished, func(i item) bool { return i.symbol == r.start && i.from == 0 })
}

// take recognizes a token that is expected.
func (r *recognizer) take(t api.Token) {
	items := slices.Clone(r.waiting[len(r.waiting)-1][r.number(symbolOf(t))])
	for i := range items {
		items[i].dot++
	}
	r.add(items)
}

// wrongAt returns the index of the first wrong token by the syntax, of which the end is one, too, or -1. (It knows nothing of MaxOpen.)
func (g *grammar) wrongAt(start string, l []api.Token) int {
	r := g.recognizer(start)
	for i, t := range l {
		if !r.expects(t) {
			return i
		}
		r.take(t)
	}
	if !r.complete() {
		return len(l)
	}
	return -1
}
