package parse_test

import (
	"slices"
	"strings"
	"testing"

	"manorboy/api"
	"manorboy/parse"
	"manorboy/tree"
)

// S4 and the faulty identifiers of formal parameters: each kind of them, and which one is the first.
func TestFaultyFormals(t *testing.T) {
	for text, want := range map[string]struct {
		e  api.Errno
		at int
	}{
		"begin procedure p(x, y); value z; integer x; x; p(1, 2) end":    {api.ErrNone, 31},
		"begin procedure p(x, y); value x, x; integer x; x; p(1, 2) end": {api.ErrTwice, 34},
		"begin procedure p(x, y); value y; integer x; x; p(1, 2) end":    {api.ErrKind, 31},
		"begin procedure p(x, x); ; end":                                 {api.ErrTwice, 21},
		"begin procedure p(x, y, z, y, x); ; end":                        {api.ErrTwice, 27},
		// Without formal parameters nothing can be said of one.
		"begin procedure p; value x; ; end":               {api.ErrNone, 25},
		"begin procedure p; label x; ; end":               {api.ErrNone, 25},
		"begin procedure p; value x; integer x; ; end":    {api.ErrNone, 25},
		"begin procedure p(x); value p; integer x; ; end": {api.ErrNone, 28},
		// By value can be what is specified as a variable, or as an array with a type.
		"begin procedure p(x); value x; ; end":                   {api.ErrKind, 28},
		"begin procedure p(x); value x; array x; ; end":          {api.ErrKind, 28},
		"begin procedure p(x); value x; procedure x; ; end":      {api.ErrKind, 28},
		"begin procedure p(x); value x; real procedure x; ; end": {api.ErrKind, 28},
		"begin procedure p(x); value x; label x; ; end":          {api.ErrKind, 28},
		"begin procedure p(x); value x; switch x; ; end":         {api.ErrKind, 28},
		"begin procedure p(x); value x; string x; ; end":         {api.ErrKind, 28},
		"begin procedure p(x); value x; real x; ; end":           {api.OK, 0},
		"begin procedure p(x); value x; integer x; ; end":        {api.OK, 0},
		"begin procedure p(x); value x; boolean x; ; end":        {api.OK, 0},
		"begin procedure p(x); value x; boolean array x; ; end":  {api.OK, 0},
		"begin procedure p(x); value x; integer array x; ; end":  {api.OK, 0},
		// Of several specifiers the first one counts, and the others are faulty themselves.
		"begin procedure p(x); value x; label x; integer x; ; end":    {api.ErrKind, 28},
		"begin procedure p(x); value x; integer x; label x; ; end":    {api.ErrTwice, 48},
		"begin procedure p(x); value x; array x; real array x; ; end": {api.ErrKind, 28},
		"begin procedure p(x); integer x, x; ; end":                   {api.ErrTwice, 33},
		"begin procedure p(x); integer x; integer x; ; end":           {api.ErrTwice, 41},
		"begin procedure p(x, y); label x, z; ; end":                  {api.ErrNone, 34},
		"begin procedure p(x, y); label x, z; value1; end":            {api.ErrNone, 34},
		"begin procedure p(x); label z, z; ; end":                     {api.ErrNone, 28},
		"begin procedure p(x); label x; switch y, x; ; end":           {api.ErrNone, 38},
		"begin procedure p(x); label x; switch x, y; ; end":           {api.ErrTwice, 38},
		// The first one in the text counts, in whichever list and procedure it is.
		"begin procedure p(x, x); value z; label y; ; end":                                     {api.ErrTwice, 21},
		"begin procedure p(x, y); value z, z; label q; ; end":                                  {api.ErrNone, 31},
		"begin procedure p(x, y); value x, z; ; end":                                           {api.ErrKind, 31},
		"begin procedure p(x, y); value z, x; ; end":                                           {api.ErrNone, 31},
		"begin procedure p(x, y); value x; integer x, y; label q; ; end":                       {api.ErrNone, 54},
		"begin procedure p(x); label x; ; procedure q(y, y); ; procedure r(z, z); ; end":       {api.ErrTwice, 48},
		"begin procedure p(x); begin procedure q(y, y); ; end; procedure r(z); value q; ; end": {api.ErrTwice, 43},
		"begin procedure p(x, x); begin procedure q(y, y); ; end; ; end":                       {api.ErrTwice, 21},
		"begin procedure p(x); label q; begin procedure q(y, y); ; end; ; end":                 {api.ErrNone, 28},
		"begin procedure p(x); value x; begin procedure q(x); integer x; ; end; ; end":         {api.ErrKind, 28},
		"  l: begin comment x; procedure p(x, x); ; end":                                       {api.ErrTwice, 37},
		// A name is not faulty for what is declared elsewhere.
		"begin integer p, x; procedure p(p, x); value x; integer x; label p; x: p:; end": {api.OK, 0},
		"begin procedure p(x); ; procedure q(x); label x; ; end":                         {api.OK, 0},
	} {
		if want.e != api.OK {
			wantFailure(t, 0, text, want.e, want.at)
		}
		_, e, at := parse.ParseStmt(text)
		if e != want.e || at != want.at {
			t.Errorf("ParseStmt(%q): %d at %d", text, e, at)
		}
		l := tokensOf(t, text)
		s, e, index := parse.Tokens(l)
		if e != want.e || e != api.OK && l[index].At != want.at || e == api.OK && index != 0 || (e != api.OK) != tree.Same(s, api.Stmt{}) {
			t.Errorf("Tokens of %q: %d at %d", text, e, index)
		}
		if e, index := parse.Syntax(l); e != api.OK || index != 0 {
			t.Errorf("Syntax of %q: %d at %d", text, e, index)
		}
	}
}

// S4: a wrong token comes ahead of all faulty identifiers, and those come ahead of the limits of the tree.
func TestOrderOfErrors(t *testing.T) {
	faulty := "begin procedure p(x, x); ; "
	wantFailure(t, 0, faulty, api.ErrForm, len(faulty))
	wantFailure(t, 0, faulty+"x x end", api.ErrForm, len(faulty)+2)
	wantFailure(t, 0, faulty+strings.Repeat("(", 3), api.ErrForm, len(faulty))
	wantFailure(t, 0, faulty+strings.Repeat("begin ", 210), api.ErrLimit, len(faulty)+6*199)
	many := strings.Repeat(";", 2000)
	wantFailure(t, 0, faulty+many+"end", api.ErrTwice, 21)
	wantFailure(t, 0, " "+faulty+many+"end", api.ErrTwice, 22)
	wantFailure(t, 0, faulty+many, api.ErrForm, len(faulty+many))
	// The error of the tree has the offset 0, wherever the first token is.
	wantFailure(t, 0, "  begin"+many+"end", api.ErrLimit, 0)
	wantFailure(t, 1, "  begin"+many+"end", api.ErrLimit, 0)
	wantFailure(t, 2, "  a"+strings.Repeat("+ a", 1000), api.ErrLimit, 0)
	wantFailure(t, 0, "  begin"+many+"end end", api.ErrForm, len("  begin"+many+"end "))
	l := tokensOf(t, "  begin"+many+"end")
	if s, e, index := parse.Tokens(l); e != api.ErrLimit || index != 0 || s.Kind != 0 {
		t.Error(e, index)
	}
	if e, index := parse.Syntax(l); e != api.OK || index != 0 {
		t.Error(e, index)
	}
	wantSyntax(t, append(l, l[0]), api.ErrForm, len(l))
}

// P5.11: formal parameters that are right have just the specifications that stand there.
func TestFormals(t *testing.T) {
	want := proc(api.TyReal, "f", empty(), byValue(formal("a", api.SpVar, api.TyInt)), formal("b", api.SpVar, api.TyReal), byValue(formal("c", api.SpArray, api.TyBool)), formal("d", api.SpArray, api.TyNone),
		formal("e", api.SpProc, api.TyNone), formal("g", api.SpProc, api.TyInt), formal("h", api.SpLabel, api.TyNone), formal("i", api.SpNone, api.TyNone))
	for _, text := range []string{
		"value a, c; integer a; real b; boolean array c; array d; procedure e; integer procedure g; label h;",
		"value c, a; label h; integer procedure g; procedure e; array d; boolean array c; real b; integer a;",
	} {
		wantProgram(t, "begin real procedure f(a, b, c, d, e, g, h, i); "+text+"; end", block(decls(want), empty()))
	}
	wantProgram(t, "begin procedure p(a, b, c, d); string c, a; switch d; ; end", block(decls(proc(api.TyNone, "p", empty(),
		formal("a", api.SpString, api.TyNone), formal("b", api.SpNone, api.TyNone), formal("c", api.SpString, api.TyNone), formal("d", api.SpSwitch, api.TyNone))), empty()))
	m := newMaker(511)
	for range 500 {
		d := proc(m.Intn(4), "p", invoke("q"), m.formals()...)
		wantProgram(t, m.write(block(decls(d), empty())).text, block(decls(d), empty()))
	}
}

// P5.11 and the faulty identifiers: any lists of identifiers, by a second reading.
func TestFormalsByChance(t *testing.T) {
	m := newMaker(512)
	counts := map[api.Errno]int{}
	for range 3000 {
		names := func(most int) []string {
			return several(m, 1, most, func() string { return pick(m, "a", "b", "c", "d", "e") })
		}
		h := headingText{}
		h.write("begin procedure p(")
		formals := h.names(names(4))
		h.write("); ")
		var values, specs []word
		if m.Intn(2) == 0 {
			h.write("value ")
			values = h.names(names(3))
			h.write("; ")
		}
		for range m.Intn(5) {
			specifier := pick(m, "integer", "real array", "array", "label", "boolean procedure", "boolean", "procedure", "string", "switch")
			h.write(specifier + " ")
			for _, w := range h.names(names(2)) {
				w.specifier = specifier
				specs = append(specs, w)
			}
			h.write("; ")
		}
		h.write("; end")
		want, wantAt := faultOf(formals, values, specs)
		counts[want]++
		_, e, at := parse.Parse(h.text)
		if e != want || at != wantAt {
			t.Errorf("Parse(%q): %d at %d, not %d at %d", h.text, e, at, want, wantAt)
		}
	}
	for _, e := range []api.Errno{api.OK, api.ErrNone, api.ErrTwice, api.ErrKind} {
		if counts[e] < 50 {
			t.Error(e, counts[e])
		}
	}
}

// word is an identifier of a heading, its offset, and the specifier that it stands behind.
type word struct {
	text      string
	at        int
	specifier string
}

type headingText struct{ text string }

func (h *headingText) write(text string) { h.text += text }

func (h *headingText) names(names []string) []word {
	var l []word
	for i, s := range names {
		if i > 0 {
			h.write(", ")
		}
		l = append(l, word{text: s, at: len(h.text)})
		h.write(s)
	}
	return l
}

// faultOf returns the first faulty identifier: of all that the chapter calls faulty, the one with the least offset.
func faultOf(formals, values, specs []word) (api.Errno, int) {
	in := func(l []word, text string) bool {
		return slices.ContainsFunc(l, func(w word) bool { return w.text == text })
	}
	faults := map[int]api.Errno{}
	for i, w := range formals {
		if in(formals[:i], w.text) {
			faults[w.at] = api.ErrTwice
		}
	}
	for i, w := range values {
		first := slices.IndexFunc(specs, func(s word) bool { return s.text == w.text })
		switch {
		case !in(formals, w.text):
			faults[w.at] = api.ErrNone
		case in(values[:i], w.text):
			faults[w.at] = api.ErrTwice
		case first < 0 || !slices.Contains([]string{"integer", "real array", "boolean"}, specs[first].specifier):
			faults[w.at] = api.ErrKind
		}
	}
	for i, w := range specs {
		switch {
		case !in(formals, w.text):
			faults[w.at] = api.ErrNone
		case in(specs[:i], w.text):
			faults[w.at] = api.ErrTwice
		}
	}
	e, at := api.OK, 0
	for offset, fault := range faults {
		if e == api.OK || offset < at {
			e, at = fault, offset
		}
	}
	return e, at
}
