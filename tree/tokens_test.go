package tree_test

import (
	"strconv"
	"strings"

	"manorboy/api"
	"manorboy/integer"
	"manorboy/real"
)

// A second reading of the chapter's section The text: the tokens of parts as lists of strings, which are laid out afterwards.

// levels are the rows of the operators: the sign, the level, and the levels that the places ask for.
const levels = `
1 - 7 8
2 not 5 6
3 + 7 7 8
4 - 7 7 8
5 * 8 8 9
6 / 8 8 9
7 // 8 8 9
8 ^ 9 9 10
9 < 6 7 7
10 <= 6 7 7
11 = 6 7 7
12 /= 6 7 7
13 >= 6 7 7
14 > 6 7 7
15 and 4 4 5
16 or 3 3 4
17 imp 2 2 3
18 eqv 1 1 2`

// rowOf returns the sign of an operator, its level, and the levels that its places ask for.
func rowOf(op int) (sign string, level int, asked []int) {
	for _, line := range strings.Split(levels, "\n") {
		words := strings.Fields(line)
		if len(words) == 0 || words[0] != strconv.Itoa(op) {
			continue
		}
		level, _ = strconv.Atoi(words[2])
		for _, word := range words[3:] {
			n, _ := strconv.Atoi(word)
			asked = append(asked, n)
		}
		return words[1], level, asked
	}
	panic("no operator")
}

func levelOf(e api.Exp) int {
	switch e.Kind {
	case api.ExIf:
		return 0
	case api.ExOne, api.ExTwo:
		_, level, _ := rowOf(e.Op)
		return level
	}
	return 10
}

// at returns the tokens of an expression in a place that asks for a level.
func at(level int, e api.Exp) []string {
	if levelOf(e) < level {
		return seq("(", expTokens(e), ")")
	}
	return expTokens(e)
}

// seq returns a list of tokens from strings and lists of strings; "" is none.
func seq(things ...any) []string {
	var l []string
	for _, x := range things {
		switch y := x.(type) {
		case []string:
			l = append(l, y...)
		case string:
			if y != "" {
				l = append(l, y)
			}
		}
	}
	return l
}

// between returns the tokens of some things, with a separator.
func between[T any](separator string, l []T, tokens func(T) []string) []string {
	var all []string
	for i, x := range l {
		if i > 0 {
			all = append(all, separator)
		}
		all = append(all, tokens(x)...)
	}
	return all
}

func single(s string) []string { return []string{s} }

func expTokens(e api.Exp) []string {
	switch e.Kind {
	case api.ExInt:
		s, _ := integer.Print(e.N)
		return seq(s)
	case api.ExReal:
		s, _ := real.Print(e.Real)
		return seq(s)
	case api.ExTrue:
		return seq("true")
	case api.ExFalse:
		return seq("false")
	case api.ExString:
		return seq("\"" + e.Text + "\"")
	case api.ExName:
		return seq(e.Text)
	case api.ExIndex:
		return seq(e.Text, "[", between(",", e.Args, expTokens), "]")
	case api.ExCall:
		return seq(e.Text, "(", between(",", e.Args, expTokens), ")")
	case api.ExIf:
		return seq("if", at(1, e.Args[0]), "then", at(1, e.Args[1]), "else", at(0, e.Args[2]))
	}
	sign, _, asked := rowOf(e.Op)
	if e.Kind == api.ExOne {
		return seq(sign, at(asked[0], e.Args[0]))
	}
	return seq(at(asked[0], e.Args[0]), sign, at(asked[1], e.Args[1]))
}

func elemTokens(l api.Elem) []string {
	switch l.Kind {
	case api.FeStep:
		return seq(expTokens(l.Exps[0]), "step", expTokens(l.Exps[1]), "until", expTokens(l.Exps[2]))
	case api.FeWhile:
		return seq(expTokens(l.Exps[0]), "while", expTokens(l.Exps[1]))
	}
	return expTokens(l.Exps[0])
}

func stmtTokens(s api.Stmt) []string {
	var l []string
	for _, label := range s.Labels {
		l = seq(l, label, ":")
	}
	switch s.Kind {
	case api.StAssign:
		for _, target := range s.Targets {
			l = seq(l, expTokens(target), ":=")
		}
		return seq(l, expTokens(s.Exps[0]))
	case api.StGoto:
		return seq(l, "goto", expTokens(s.Exps[0]))
	case api.StIf:
		l = seq(l, "if", expTokens(s.Exps[0]), "then", stmtTokens(s.Body[0]))
		if len(s.Body) > 1 {
			l = seq(l, "else", stmtTokens(s.Body[1]))
		}
	case api.StFor:
		return seq(l, "for", expTokens(s.Targets[0]), ":=", between(",", s.For, elemTokens), "do", stmtTokens(s.Body[0]))
	case api.StCall:
		l = seq(l, s.Text)
		if len(s.Exps) > 0 {
			l = seq(l, "(", between(",", s.Exps, expTokens), ")")
		}
	case api.StBlock, api.StList:
		l = seq(l, "begin")
		for _, d := range s.Decls {
			l = seq(l, declTokens(d), ";")
		}
		return seq(l, between(";", s.Body, stmtTokens), "end")
	}
	return l
}

func typeToken(t int) string {
	return strings.Split(" integer real boolean", " ")[t]
}

func declTokens(d api.Decl) []string {
	var l []string
	if d.Own {
		l = seq("own")
	}
	l = seq(l, typeToken(d.Type))
	switch d.Kind {
	case api.DeArray:
		var dimensions [][]string
		for i := 0; i < len(d.Exps); i += 2 {
			dimensions = append(dimensions, seq(expTokens(d.Exps[i]), ":", expTokens(d.Exps[i+1])))
		}
		same := func(dimension []string) []string { return dimension }
		return seq(l, "array", between(",", d.Names, single), "[", between(",", dimensions, same), "]")
	case api.DeSwitch:
		return seq(l, "switch", d.Names[0], ":=", between(",", d.Exps, expTokens))
	case api.DeProc:
		return seq(l, "procedure", d.Names[0], headTokens(d.Formals), stmtTokens(d.Body[0]))
	}
	return seq(l, between(",", d.Names, single))
}

// headTokens returns the tokens between the name of a procedure and its body.
func headTokens(formals []api.Formal) []string {
	var names, values, specs []string
	for _, f := range formals {
		names = append(names, f.Name)
		if f.Value {
			values = append(values, f.Name)
		}
		if f.Spec != api.SpNone {
			word := strings.Split("  array label switch string procedure", " ")[f.Spec]
			specs = seq(specs, typeToken(f.Type), word, f.Name, ";")
		}
	}
	var l []string
	if len(names) > 0 {
		l = seq("(", between(",", names, single), ")")
	}
	l = seq(l, ";")
	if len(values) > 0 {
		l = seq(l, "value", between(",", values, single), ";")
	}
	return seq(l, specs)
}

// laidOut returns the text with these tokens.
func laidOut(tokens []string) string {
	var text strings.Builder
	for i, token := range tokens {
		if i > 0 && !isTight(tokens[i-1], token) {
			text.WriteByte(' ')
		}
		text.WriteString(token)
	}
	return text.String()
}

// isTight reports whether two tokens have no blank between them.
func isTight(a, b string) bool {
	behindName := (b == "(" || b == "[") && 'a' <= a[0] && a[0] <= 'z' && !strings.Contains(" begin end if then else for do step until while goto own integer real boolean array switch procedure value label string true false not and or imp eqv ", " "+a+" ")
	return b == "," || b == ";" || b == ":" || b == ")" || b == "]" || a == "(" || a == "[" || behindName
}

// tokensOf returns the tokens of a part that is no element.
func tokensOf(p api.Part) []string {
	switch p.Kind {
	case api.PaStmt:
		return stmtTokens(p.Stmt)
	case api.PaDecl:
		return declTokens(p.Decl)
	}
	return expTokens(p.Exp)
}
