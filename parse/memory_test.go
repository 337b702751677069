package parse_test

import (
	"reflect"
	"runtime"
	"slices"
	"testing"

	"manorboy/api"
	"manorboy/lex"
	"manorboy/parse"
	"manorboy/tree"
)

// R6: tokens stay as they are, also behind the end of their list, and so do results when others are changed.
func TestArguments(t *testing.T) {
	m := newMaker(6)
	g := readGrammar()
	for n := range 200 {
		l := g.sentence(m, "program", 2+n%50)
		behind := api.Token{Kind: api.TkName, Text: "kept", At: 4711}
		all := append(slices.Clone(l), behind, behind, behind)
		kept := slices.Clone(all)
		cut := all[:m.Intn(len(l)+1)]
		parse.Syntax(cut)
		parse.Syntax(all[:len(l)])
		parse.Tokens(all[:len(l)])
		parse.Repair(cut)
		made, _, _ := parse.Complete(cut)
		again, _, _ := parse.Complete(cut)
		results := [][]api.Token{made}
		for index := range len(cut) + 1 {
			fixed, _ := parse.Apply(cut, api.Fix{Index: index, Put: sign(";")})
			dropped, _ := parse.Apply(cut, api.Fix{Index: index, Drop: true})
			results = append(results, fixed, dropped)
		}
		if !slices.Equal(made, again) {
			t.Error(made, again)
		}
		for _, result := range results {
			spoilTokens(result)
		}
		if !slices.Equal(all, kept) {
			t.Fatal("tokens have changed", short(all), short(kept))
		}
		if third, _, _ := parse.Complete(cut); !slices.Equal(third, again) {
			t.Error(third, again)
		}
	}
}

// spoilTokens changes all tokens of a list, up to its capacity.
func spoilTokens(l []api.Token) {
	l = l[:cap(l)]
	for i := range l {
		l[i] = api.Token{Kind: -1, Text: "spoiled"}
	}
}

// region is the memory of a list, up to its capacity.
type region struct{ from, end uintptr }

// regions returns the memory of all lists in a value.
func regions(v reflect.Value) []region {
	var l []region
	switch v.Kind() {
	case reflect.Struct:
		for i := range v.NumField() {
			l = append(l, regions(v.Field(i))...)
		}
	case reflect.Slice:
		if size := uintptr(v.Cap()) * v.Type().Elem().Size(); size > 0 {
			l = append(l, region{v.Pointer(), v.Pointer() + size})
		}
		for i := range v.Len() {
			l = append(l, regions(v.Index(i))...)
		}
	}
	return l
}

// R6, R7: no two lists of results share memory, and equal calls have equal results.
func TestResults(t *testing.T) {
	m := newMaker(66)
	for _, s := range m.programs(60, 6, 800) {
		text := m.write(s).text
		var all []region
		var results []any
		for range 2 {
			program, _, _ := parse.Parse(text)
			statement, _, _ := parse.ParseStmt(text)
			l, _, _ := lex.Lex(text)
			ofTokens, _, _ := parse.Tokens(l)
			pieces, _, _ := parse.Places(text)
			for _, other := range []api.Stmt{program, statement, ofTokens} {
				if !tree.Same(other, s) {
					t.Fatal(short(text))
				}
			}
			results = append(results, program, statement, ofTokens, pieces, l)
		}
		for _, x := range results {
			all = append(all, regions(reflect.ValueOf(x))...)
		}
		slices.SortFunc(all, func(a, b region) int { return int(a.from) - int(b.from) })
		for i := range all[1:] {
			if all[i].end > all[i+1].from {
				t.Fatal("two lists share memory", short(text))
			}
		}
		// What is collected could be where a later result is.
		runtime.KeepAlive(results)
	}
}
