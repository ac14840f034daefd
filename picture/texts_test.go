package picture_test

import (
	"strings"
	"testing"

	"genlock/api"
	"genlock/picture"
)

// P1.6
func TestPrintAndParse(t *testing.T) {
	for _, x := range []struct {
		p picture.Picture
		s string
	}{
		{made(2, 2, 1, -0.5, 0, 1024), "picture p 2 2\nrow 16 -8\nrow 0 16384\n"},
		{named("q", filled(1, 1, -0.5)), "picture q 1 1\nrow -8\n"},
		{named("A_1", made(3, 1, -1024, 0.0625, -0.0625)), "picture A_1 3 1\nrow -16384 1 -1\n"},
		{made(1, 3, 1, 2, 3), "picture p 1 3\nrow 16\nrow 32\nrow 48\n"},
		{named("picture", filled(1, 1, 0)), "picture picture 1 1\nrow 0\n"},
		{named("row", filled(64, 64, 5)), "picture row 64 64\n" + strings.Repeat("row"+strings.Repeat(" 80", 64)+"\n", 64)},
	} {
		s, e := picture.Print(x.p)
		p, at, f := picture.Parse(x.s)
		want(t, x.s, []any{s, e, p, at, f}, []any{x.s, api.OK, x.p, 0, api.OK})
	}
	s, e := picture.Print(filled(1, 1, minus0))
	want(t, "Print of -0", []any{s, e}, []any{"picture p 1 1\nrow 0\n", api.OK})
}

// parses compares the error of a text, and the index.
func parses(t *testing.T, s string, at int, e api.Errno) {
	t.Helper()
	p, i, f := picture.Parse(s)
	if len(s) > 200 {
		s = s[:200]
	}
	want(t, s, []any{p, i, f}, []any{picture.Picture{}, at, e})
}

// P1.6: each of these lines is wrong, wherever it stands.
func TestParseForms(t *testing.T) {
	for _, line := range []string{"", " ", "\n", "x", "picture", "picture ", "picture p", "picture p 1", "picture p 1 1 1", "picture p 1 1 ", " picture p 1 1", "picture  p 1 1", "picture p  1 1", "picture p 1  1", "picture  1 1", "picture p\t1 1", "picture p 1 1\r", "Picture p 1 1", "pictures p 1 1", "picture p x 1", "picture p 1 x", "picture p 01 1", "picture p 1 -0", "picture p +1 1", "picture 1 1", "p 1 1"} {
		parses(t, line+"\nrow 1\n", 0, api.ErrSyntax)
		parses(t, "picture p 1 2\nrow 1\n"+line+"\n", 2, api.ErrSyntax)
	}
	for _, line := range []string{"", " ", "row", "row ", "row  1", " row 1", "row 1 ", "row 1  2", "row\t1", "Row 1", "rows 1", "row 1\r", "row x", "row 1x", "row x1", "row 1.5", "row 1e3", "row 0x1", "row 1_0", "row +1", "row -", "row --1", "row -0", "row 00", "row 01", "row -01", "row 0000000001", "row 1234567890", "row -1234567890", "row 99999999999999999999", "row -99999999999999999999", "row 1 2 -0", "row 1,2", "row \xff", "row \u0661", "row 1 -", "1"} {
		parses(t, "picture p 1 1\n"+line+"\n", 1, api.ErrSyntax)
		parses(t, "picture p 1 1\n"+line+"\nrow x\nrow", 1, api.ErrSyntax)
		parses(t, line+"\nrow x\n", 0, api.ErrSyntax)
	}
	parses(t, "picture p 1 1\npicture p 1 1\n", 1, api.ErrSyntax)
	parses(t, "row 1\n", 0, api.ErrSyntax)
	parses(t, "row 1\npicture p 1 1\n", 0, api.ErrSyntax)
	parses(t, "", 0, api.ErrSyntax)
	parses(t, "picture p 1 1", 0, api.ErrSyntax)
	parses(t, "picture p 1 1\nrow 1", 1, api.ErrSyntax)
	parses(t, "picture p 1 1\nrow 1\n ", 2, api.ErrSyntax)
	parses(t, "picture p 1 1\nrow 1\n\n", 2, api.ErrSyntax)
	parses(t, "picture p 5 5\nrow 1\nrow 99999 2\nrow 1", 3, api.ErrSyntax)
}

// P1.6: what is asked when all lines have their forms, in its order.
func TestParseErrors(t *testing.T) {
	sixtyFive := "picture p 1 65\n" + strings.Repeat("row 1\n", 65)
	for _, x := range []struct {
		s  string
		at int
		e  api.Errno
	}{
		{"picture p 1 1\n", 1, api.ErrShape}, {"picture p 1 2\nrow 1\n", 2, api.ErrShape}, {"picture p 1 1\nrow 1\nrow 1\n", 3, api.ErrShape}, {"picture p 1 0\nrow 1\n", 2, api.ErrShape}, {"picture p 1 -1\n", 1, api.ErrShape}, {"picture p 1 999999999\nrow 1\n", 2, api.ErrShape},
		{"picture p 2 1\nrow 1\n", 2, api.ErrShape}, {"picture p 1 1\nrow 1 2\n", 2, api.ErrShape}, {"picture p 0 1\nrow 1\n", 2, api.ErrShape}, {"picture p -1 1\nrow 1\n", 2, api.ErrShape}, {"picture p 2 2\nrow 1 2\nrow 3\n", 3, api.ErrShape}, {"picture p 2 2\nrow 1\nrow 3 4\n", 3, api.ErrShape}, {"picture p 2 2\nrow 1 2 3\nrow 4\n", 3, api.ErrShape}, {"picture p 3 2\nrow 1 2\nrow 1 2 3\n", 3, api.ErrShape},
		{"picture 9 1 1\nrow 99999 1\n", 2, api.ErrShape}, {"picture 9 1 2\nrow 99999\n", 2, api.ErrShape},
		{"picture p 1 1\nrow 16385\n", 2, api.ErrLarge}, {"picture p 1 1\nrow -16385\n", 2, api.ErrLarge}, {"picture p 2 2\nrow 1 2\nrow 3 999999999\n", 3, api.ErrLarge}, {"picture p 1 1\nrow -999999999\n", 2, api.ErrLarge}, {"picture 9 1 1\nrow 16385\n", 2, api.ErrLarge}, {"picture p 1 65\n" + strings.Repeat("row 16385\n", 65), 66, api.ErrLarge},
		{"picture 9 1 1\nrow 1\n", 2, api.ErrName}, {"picture p-q 1 1\nrow 1\n", 2, api.ErrName}, {"picture abcdefghijklmnopqrstuvwxy 1 1\nrow 1\n", 2, api.ErrName}, {"picture \xff 1 1\nrow 1\n", 2, api.ErrName}, {"picture 1 0 0\n", 1, api.ErrName}, {"picture p\t 1 1\nrow 1\n", 2, api.ErrName},
		{"picture p 0 0\n", 1, api.ErrRange}, {"picture p 5 0\n", 1, api.ErrRange}, {"picture p -5 0\n", 1, api.ErrRange}, {sixtyFive, 66, api.ErrRange}, {"picture p 65 1\nrow" + strings.Repeat(" 1", 65) + "\n", 2, api.ErrRange},
	} {
		parses(t, x.s, x.at, x.e)
	}
}

// P1.6
func TestParseLimits(t *testing.T) {
	parses(t, strings.Repeat("x", 1000001), 0, api.ErrLong)
	parses(t, "picture p 1 1\nrow 1\n"+strings.Repeat("\n", 1000001), 0, api.ErrLong)
	parses(t, strings.Repeat("x", 1000000), 0, api.ErrSyntax)
	rows := "picture p 1 1\n" + strings.Repeat("row 1\n", 166664)
	parses(t, rows+"\n\n", 166665, api.ErrSyntax)
	parses(t, rows, 166665, api.ErrShape)
	parses(t, "picture p 1 1\nrow"+strings.Repeat(" 1", 499991)+"\n", 2, api.ErrShape)
}
