package parse_test

import (
	"slices"
	"testing"

	"manorboy/api"
	"manorboy/parse"
	"manorboy/tree"
)

// wantPlaces reports a text of a program whose parts do not lie at these offsets, each the first and the one behind the last.
func wantPlaces(t *testing.T, text string, offsets ...int) {
	t.Helper()
	pieces, e, at := parse.Places(text)
	var got []int
	for _, p := range pieces {
		got = append(got, p.At, p.End)
	}
	if e != api.OK || at != 0 || !slices.Equal(got, offsets) {
		t.Errorf("Places(%q) = %v, %d, %d, not %v", text, got, e, at, offsets)
	}
}

// S9: the examples, and the edge cases that the terms name.
func TestPlaces(t *testing.T) {
	wantPlaces(t, "begin x := - y end", 0, 18, 6, 14, 6, 7, 11, 14, 13, 14)
	wantPlaces(t, "begin ; a end", 0, 13, 5, 5, 8, 9)
	wantPlaces(t, "  l: begin end  ", 2, 14, 10, 10)
	wantPlaces(t, "begin end of this", 0, 9, 5, 5)
	// Comments are no tokens, neither ahead of an empty statement nor behind one.
	wantPlaces(t, "begin comment a; end", 0, 20, 5, 5)
	wantPlaces(t, "begin ; comment a; ; end", 0, 24, 5, 5, 7, 7, 20, 20)
	wantPlaces(t, "begin begin end c ; x end", 0, 25, 6, 15, 11, 11, 20, 21)
	// Labels belong to a statement, also to an empty one.
	wantPlaces(t, "begin l: m: end", 0, 15, 6, 11)
	// Parentheses, and the sign + in front, belong to the part around.
	wantPlaces(t, "begin x := ((y)) end", 0, 20, 6, 16, 6, 7, 13, 14)
	wantPlaces(t, "begin x := + y end", 0, 18, 6, 14, 6, 7, 13, 14)
	wantPlaces(t, "begin x := + (+ y) end", 0, 22, 6, 18, 6, 7, 16, 17)
	wantPlaces(t, "begin x := + a - b * (c) end", 0, 28, 6, 24, 6, 7, 11, 24, 13, 14, 17, 24, 17, 18, 22, 23)
	wantPlaces(t, "begin x := + a * b end", 0, 22, 6, 18, 6, 7, 13, 18, 13, 14, 17, 18)
	wantPlaces(t, "begin x := + a - b + c end", 0, 26, 6, 22, 6, 7, 11, 22, 11, 18, 13, 14, 17, 18, 21, 22)
	wantPlaces(t, "begin x := + a < b end", 0, 22, 6, 18, 6, 7, 11, 18, 13, 14, 17, 18)
	wantPlaces(t, "begin x := (a) * ((b)) end", 0, 26, 6, 22, 6, 7, 11, 22, 12, 13, 19, 20)
	wantPlaces(t, "begin goto (- (a)) end", 0, 22, 6, 18, 12, 17, 15, 16)
	wantPlaces(t, "begin goto (not (a)) end", 0, 24, 6, 20, 12, 19, 17, 18)
	wantPlaces(t, "begin goto (if (a) then (b) else (c)) end", 0, 41, 6, 37, 12, 36, 16, 17, 25, 26, 34, 35)
	wantPlaces(t, "begin p((a), f(b), c[1], \"d\") end", 0, 33, 6, 29, 9, 10, 13, 17, 15, 16, 19, 23, 21, 22, 25, 28)
	// Elements of lists have what is around their expressions.
	wantPlaces(t, "begin for i := (1), + 2 step 3 until (4), 5 while b do end", 0, 58, 6, 54, 10, 11, 15, 18, 16, 17, 20, 40, 22, 23, 29, 30, 38, 39, 42, 51, 42, 43, 50, 51, 54, 54)
	wantPlaces(t, "begin if b then else p end", 0, 26, 6, 22, 9, 10, 15, 15, 21, 22)
	wantPlaces(t, "begin if b then end", 0, 19, 6, 15, 9, 10, 15, 15)
	wantPlaces(t, "begin x := a[i] := y end", 0, 24, 6, 20, 6, 7, 11, 15, 13, 14, 19, 20)
}

// S9: declarations.
func TestPlacesOfDeclarations(t *testing.T) {
	wantPlaces(t, "begin own integer i, j; real x; end", 0, 35, 6, 22, 24, 30, 31, 31)
	wantPlaces(t, "begin array a[1: 2], b, c[0: n, (1): 2]; end", 0, 44, 6, 19, 14, 15, 17, 18, 21, 39, 26, 27, 29, 30, 33, 34, 37, 38, 40, 40)
	wantPlaces(t, "begin own real array a[1: 2], b[3: 4]; end", 0, 42, 6, 28, 23, 24, 26, 27, 30, 37, 32, 33, 35, 36, 38, 38)
	wantPlaces(t, "begin real array a[+ 1: x + y]; end", 0, 35, 6, 30, 21, 22, 24, 29, 24, 25, 28, 29, 31, 31)
	wantPlaces(t, "begin switch s := l, (m); l: m: end", 0, 35, 6, 24, 18, 19, 22, 23, 26, 31)
	wantPlaces(t, "begin procedure p; ; end", 0, 24, 6, 18, 18, 18, 20, 20)
	wantPlaces(t, "begin real procedure f(x); value x; real x; f := x; end", 0, 55, 6, 50, 44, 50, 44, 45, 49, 50, 51, 51)
	wantPlaces(t, "begin procedure p; procedure1; procedure q; begin real x; end; end", 0, 66, 6, 29, 19, 29, 31, 61, 44, 61, 50, 56, 57, 57, 62, 62)
}

// S9, P5.6: the parts of programs that are written in all ways lie where they were written.
func TestPlacesOfAllParts(t *testing.T) {
	m := newMaker(9)
	for _, s := range m.programs(400, 6, api.MaxNodes) {
		w := m.write(s)
		pieces, e, at := parse.Places(w.text)
		if e != api.OK || at != 0 || !slices.Equal(pieces, w.pieces) {
			t.Errorf("Places(%q): %v, %d, %d, not %v", short(w.text), short(pieces), e, at, short(w.pieces))
		}
	}
}

// P5.6: a piece lies within that of the part around it, and behind those of the parts ahead of it; and it denotes the part.
func TestPieces(t *testing.T) {
	m := newMaker(56)
	for _, s := range m.programs(80, 6, 500) {
		text := m.write(s).text
		pieces, e, _ := parse.Places(text)
		paths, _ := tree.Paths(s)
		if e != api.OK || len(pieces) != len(paths) {
			t.Fatal(e, len(pieces), len(paths), short(text))
		}
		ends := map[int]int{}
		for i, path := range paths {
			piece := pieces[i]
			if piece.At > piece.End || piece.At < 0 || piece.End > len(text) {
				t.Fatal(piece)
			}
			if len(path) > 0 {
				around, _ := tree.Number(s, path[:len(path)-1])
				if piece.At < pieces[around].At || piece.End > pieces[around].End || piece.At < ends[around] {
					t.Errorf("%v %v in %v behind %d: %q", path, piece, pieces[around], ends[around], short(text))
				}
				ends[around] = piece.End
			}
			switch part, _ := tree.At(s, path); part.Kind {
			case api.PaStmt:
				wantStmt(t, text[piece.At:piece.End], part.Stmt)
			case api.PaExp:
				wantExp(t, text[piece.At:piece.End], part.Exp)
			}
		}
	}
}

// S10: the examples, and all offsets of other texts.
func TestFind(t *testing.T) {
	for at, want := range map[int]int{0: 0, 5: 0, 6: 2, 7: 1, 10: 1, 11: 3, 12: 3, 13: 4, 14: 0, 17: 0} {
		if n, e := parse.Find("begin x := - y end", at); n != want || e != api.OK {
			t.Error(at, n, e)
		}
	}
	for _, at := range []int{18, 19, -1, 1 << 40, -1 << 40} {
		if n, e := parse.Find("begin x := - y end", at); n != 0 || e != api.ErrNone {
			t.Error(at, n, e)
		}
	}
	if n, e := parse.Find("begin x := - y", 3); n != 0 || e != api.ErrForm {
		t.Error(n, e)
	}
	if n, e := parse.Find("begin $", -1); n != 0 || e != api.ErrForm {
		t.Error(n, e)
	}
	m := newMaker(10)
	for _, s := range m.programs(40, 5, 100) {
		w := m.write(s)
		for at := -1; at <= len(w.text); at++ {
			want, wantError := 0, api.ErrNone
			for number, p := range w.pieces {
				if p.At <= at && at < p.End {
					want, wantError = number, api.OK
				}
			}
			if n, e := parse.Find(w.text, at); n != want || e != wantError {
				t.Fatalf("Find(%q, %d) = %d, %d, not %d, %d", short(w.text), at, n, e, want, wantError)
			}
		}
	}
}
