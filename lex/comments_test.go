package lex_test

import (
	"strings"
	"testing"

	"manorboy/api"
	"manorboy/lex"
)

// P3.1, L10 and L11: the examples.
func TestCommentExamples(t *testing.T) {
	text := "begin comment a; b end c, \"d else"
	wantComments(t, text, pieces(api.Piece{At: 6, End: 16}, api.Piece{At: 23, End: 28}), api.OK, 0)
	if s, e, at := lex.Strip(text); s != "begin   b end   else" || e != api.OK || at != 0 {
		t.Errorf("Strip(%q) = %q, %d, %d", text, s, e, at)
	}
}

// P3.1, L10 and L11: where comments begin and end; what is skipped behind the word end is one only if it has a byte that is no blank.
func TestComments(t *testing.T) {
	for _, x := range []struct {
		text  string
		want  []api.Piece
		strip string
	}{
		{"", nil, ""}, {" \n", nil, " \n"}, {"x := \"comment; end x\"", nil, "x := \"comment; end x\""}, {"begin end", nil, "begin end"},
		{"end", nil, "end"}, {"end \t\r\n", nil, "end \t\r\n"}, {"end ;", nil, "end ;"}, {"end\nend \t else", nil, "end\nend \t else"},
		{"end x", pieces(api.Piece{At: 4, End: 5}), "end  "}, {"end \t x y \n;", pieces(api.Piece{At: 6, End: 9}), "end \t   \n;"}, {"end$", pieces(api.Piece{At: 3, End: 4}), "end "}, {"end-end", pieces(api.Piece{At: 3, End: 4}), "end end"},
		{"end.\n\n", pieces(api.Piece{At: 3, End: 4}), "end \n\n"}, {"end \v\f", pieces(api.Piece{At: 4, End: 6}), "end  "}, {"end \x00 \xff ", pieces(api.Piece{At: 4, End: 7}), "end   "}, {"end comment x;", pieces(api.Piece{At: 4, End: 13}), "end  ;"},
		{"end x end y;z", pieces(api.Piece{At: 4, End: 5}, api.Piece{At: 10, End: 11}), "end   end  ;z"}, {"end x else y", pieces(api.Piece{At: 4, End: 5}), "end   else y"}, {"end end1 1end elsewhere;", pieces(api.Piece{At: 4, End: 23}), "end  ;"},
		{"begin comment;", pieces(api.Piece{At: 6, End: 14}), "begin  "}, {"begin comment a; comment b;", pieces(api.Piece{At: 6, End: 16}, api.Piece{At: 17, End: 27}), "begin    "}, {";comment a;comment b;", pieces(api.Piece{At: 1, End: 11}, api.Piece{At: 11, End: 21}), ";  "},
		{"; comment \n \"x ;y", pieces(api.Piece{At: 2, End: 16}), ";  y"}, {"x;comment end;y end z", pieces(api.Piece{At: 2, End: 14}, api.Piece{At: 20, End: 21}), "x; y end  "}, {"end x; comment y;\n", pieces(api.Piece{At: 4, End: 5}, api.Piece{At: 7, End: 17}), "end  ;  \n"},
	} {
		wantComments(t, x.text, x.want, api.OK, 0)
		if s, e, at := lex.Strip(x.text); s != x.strip || e != api.OK || at != 0 {
			t.Errorf("Strip(%q) = %q, %d, %d; want %q", x.text, s, e, at, x.strip)
		}
		wantReading(t, x.text)
	}
}

// P3.1, L10 and L11: the errors are those of Lex, behind comments, too.
func TestCommentsOfWrongTexts(t *testing.T) {
	for _, x := range []struct {
		text string
		e    api.Errno
		at   int
	}{
		{"begin comment a; $", api.ErrForm, 17}, {"end x; 1.", api.ErrForm, 7}, {"end x; 2147483648", api.ErrRange, 7}, {"; comment a; abcdefghijklmnopq", api.ErrLimit, 13}, {"comment a;", api.ErrForm, 0}, {"begin comment a; comment b", api.ErrForm, 17},
		{"; comment a; \"" + strings.Repeat("b", 81) + "\"", api.ErrLimit, 13}, {"; comment" + strings.Repeat(" ", api.MaxSource) + ";", api.ErrLimit, 0},
	} {
		wantFailure(t, x.text, x.e, x.at)
	}
}
