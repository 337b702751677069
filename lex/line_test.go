package lex_test

import (
	"math"
	"strings"
	"testing"

	"manorboy/api"
	"manorboy/lex"
)

// wantLine compares Line with these results.
func wantLine(t *testing.T, text string, at, line, column int, e api.Errno) {
	t.Helper()
	if l, c, x := lex.Line(text, at); l != line || c != column || x != e {
		t.Errorf("Line(%.100q, %d) = %d, %d, %d; want %d, %d, %d", text, at, l, c, x, line, column, e)
	}
}

// P3.1, L18.
func TestLine(t *testing.T) {
	wantLine(t, "ab", 2, 1, 3, api.OK)
	wantLine(t, "a\nb", 2, 2, 1, api.OK)
	for _, x := range []struct {
		text         string
		line, column []int
	}{
		{"", []int{1}, []int{1}}, {"a", []int{1, 1}, []int{1, 2}}, {"\n", []int{1, 2}, []int{1, 1}}, {"\n\n", []int{1, 2, 3}, []int{1, 1, 1}}, {"ab\ncd\n", []int{1, 1, 1, 2, 2, 2, 3}, []int{1, 2, 3, 1, 2, 3, 1}}, {"\na\n\nb", []int{1, 2, 2, 3, 4, 4}, []int{1, 1, 2, 1, 1, 2}},
		{"a\r\nb", []int{1, 1, 1, 2, 2}, []int{1, 2, 3, 1, 2}}, {"a\rb\tc\v\fd", []int{1, 1, 1, 1, 1, 1, 1, 1, 1}, []int{1, 2, 3, 4, 5, 6, 7, 8, 9}}, {"é\xff\x00\nx", []int{1, 1, 1, 1, 1, 2, 2}, []int{1, 2, 3, 4, 5, 1, 2}}, {"$ \"\n", []int{1, 1, 1, 1, 2}, []int{1, 2, 3, 4, 1}},
	} {
		for at := range len(x.text) + 1 {
			wantLine(t, x.text, at, x.line[at], x.column[at], api.OK)
		}
	}
}

// P3.1, L18: offsets outside the text, and texts of any length.
func TestLineEdges(t *testing.T) {
	for _, text := range []string{"", "a", "\n", "ab\ncd"} {
		for _, at := range []int{-1, -2, len(text) + 1, len(text) + 2, math.MinInt, math.MaxInt} {
			wantLine(t, text, at, 0, 0, api.ErrArg)
		}
	}
	long := strings.Repeat("abc\n", api.MaxSource)
	wantLine(t, long, len(long), api.MaxSource+1, 1, api.OK)
	wantLine(t, long, len(long)-1, api.MaxSource, 4, api.OK)
	wantLine(t, long, len(long)+1, 0, 0, api.ErrArg)
	wantLine(t, strings.Repeat("x", 2*api.MaxSource), 2*api.MaxSource, 1, 2*api.MaxSource+1, api.OK)
}
