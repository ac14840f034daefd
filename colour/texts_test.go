package colour_test

import (
	"fmt"
	"strings"
	"testing"

	"genlock/api"
	"genlock/colour"
)

const textC = "curve 3\npoint 0 0\npoint 100 200\npoint 300 300\n"

// P2.5
func TestPrint(t *testing.T) {
	want(t, "Print", results(colour.Print(curveC())), textC, api.OK)
	want(t, "Print", results(colour.Print(colour.Curve{{In: -16384, Out: -10}, {In: -9, Out: 16384}})), "curve 2\npoint -16384 -10\npoint -9 16384\n", api.OK)
	for _, c := range curves() {
		wantError(t, c.v, results(colour.Print(c.v)), c.e, "")
	}
}

// P2.5
func TestParse(t *testing.T) {
	want(t, "Parse", results(colour.Parse(textC)), curveC(), 0, api.OK)
	want(t, "Parse", results(colour.Parse("curve 2\npoint -16384 -10\npoint -9 16384\n")), colour.Curve{{In: -16384, Out: -10}, {In: -9, Out: 16384}}, 0, api.OK)
	want(t, "Parse of 16 points", results(colour.Parse(printed(stairs(16)))), stairs(16), 0, api.OK)
}

// printed returns the text of any points.
func printed(c colour.Curve) string {
	s := fmt.Sprintf("curve %d\n", len(c))
	for _, p := range c {
		s += fmt.Sprintf("point %d %d\n", p.In, p.Out)
	}
	return s
}

// P2.5: each line, in each place, has its form.
func TestParseOfWrongLines(t *testing.T) {
	heads := []string{"", " ", "curve", "curve ", "curve  3", "curve 3 ", " curve 3", "curve 3 3", "curve x", "curve 03", "curve -0", "curve +3", "curve 3\r", "curve\t3", "curve 3.0", "curve 1234567890", "curve -1234567890", "curve --3", "curve -", "curve 3-", "curve 00", "curve 1_0", "curve 0x3", "curve \u0663", "curve \xff", "curve 3\x00", "Curve 3", "curves 3", "point 3", "point 0 0", "picture 3", "3"}
	points := []string{"", " ", "point", "point 0", "point 0 ", "point 0 0 ", "point 0 0 0", "point  0 0", "point 0  0", " point 0 0", "point 0 x", "point x 0", "point 00 0", "point 0 00", "point -0 0", "point 0 -0", "point 01 2", "point -01 2", "point +1 2", "point 1 +2", "point 1 1234567890", "point -1234567890 0", "point 0 0\r", "Point 0 0", "points 0 0", "curve 3", "curve 0 0", "0 0", "point 0,0", "point 0 \u0663", "point \xff 0"}
	want(t, "nothing", results(colour.Parse("")), colour.Curve(nil), 0, api.ErrSyntax)
	for _, head := range heads {
		want(t, head, results(colour.Parse(head+"\npoint 0 0\npoint 1 1\npoint 2 2\n")), colour.Curve(nil), 0, api.ErrSyntax)
		want(t, head, results(colour.Parse(head+"\nnonsense")), colour.Curve(nil), 0, api.ErrSyntax)
	}
	for _, point := range points {
		want(t, point, results(colour.Parse("curve 3\n"+point+"\npoint 1 1\npoint 2 2\n")), colour.Curve(nil), 1, api.ErrSyntax)
		want(t, point, results(colour.Parse("curve 3\npoint 0 0\npoint 1 1\n"+point+"\n")), colour.Curve(nil), 3, api.ErrSyntax)
		want(t, point, results(colour.Parse(textC+point+"\n")), colour.Curve(nil), 4, api.ErrSyntax)
	}
	lines := strings.SplitAfter(textC, "\n")
	for i := range 4 { // without a line feed at the end
		cut := strings.TrimSuffix(strings.Join(lines[:i+1], ""), "\n")
		want(t, cut, results(colour.Parse(cut)), colour.Curve(nil), i, api.ErrSyntax)
	}
}

// P2.5: the errors of a text whose lines have their forms.
func TestParseOfWrongCurves(t *testing.T) {
	for _, x := range []struct {
		s  string
		at int
		e  api.Errno
	}{
		{"curve 3\n", 1, api.ErrShape},
		{"curve 2\npoint 0 0\n", 2, api.ErrShape},
		{"curve 2\npoint 0 0\npoint 1 1\npoint 2 2\n", 4, api.ErrShape},
		{"curve -2\npoint 0 0\npoint 1 1\n", 3, api.ErrShape},
		{"curve 999999999\npoint 0 0\npoint 1 1\n", 3, api.ErrShape},
		{"curve -999999999\npoint 999999999 -999999999\n", 2, api.ErrShape},
		{"curve 0\n", 1, api.ErrShort},
		{"curve 1\npoint 0 0\n", 2, api.ErrShort},
		{"curve 2\npoint 0 0\npoint 999999999 0\n", 3, api.ErrRange},
		{"curve 2\npoint 0 -16385\npoint 0 0\n", 3, api.ErrRange},
		{"curve 2\npoint 0 0\npoint 0 0\n", 3, api.ErrOrder},
	} {
		want(t, x.s, results(colour.Parse(x.s)), colour.Curve(nil), x.at, x.e)
	}
	for _, c := range curves() {
		for _, p := range c.v { // integers of a text have at most 9 digits
			if max(p.In, -p.In, p.Out, -p.Out) > api.MaxNumber || p.In < -api.MaxNumber {
				c.v = nil
				break
			}
		}
		if c.v == nil {
			continue
		}
		v, at := c.v, 0
		if c.e != api.OK {
			v, at = nil, 1+len(c.v)
		}
		want(t, c.v, results(colour.Parse(printed(c.v))), v, at, c.e)
	}
}

// P2.5: the length of a text.
func TestParseOfLongTexts(t *testing.T) {
	long := "curve 409\n" + strings.Repeat("point 0 0\n", 408) // 10 bytes each
	want(t, "4090 bytes", results(colour.Parse(long)), colour.Curve(nil), 409, api.ErrShape)
	want(t, "4096 bytes", results(colour.Parse(long+"point ")), colour.Curve(nil), 409, api.ErrSyntax)
	want(t, "4096 bytes", results(colour.Parse("curve 408\npoint 1000000 0\n"+long[20:])), colour.Curve(nil), 409, api.ErrMany)
	want(t, "4097 bytes", results(colour.Parse(long+"point 0")), colour.Curve(nil), 0, api.ErrLong)
	want(t, "4097 bytes", results(colour.Parse(strings.Repeat("x", 4097))), colour.Curve(nil), 0, api.ErrLong)
	want(t, "4096 bytes", results(colour.Parse(strings.Repeat("x", 4096))), colour.Curve(nil), 0, api.ErrSyntax)
}
