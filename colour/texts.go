package colour

import (
	"strconv"
	"strings"

	"genlock/api"
	"genlock/common"
)

// lineForms returns the forms of lines by their first words.
func lineForms() map[string]common.Form {
	return map[string]common.Form{
		"curve": {Stands: common.IsFirst, Read: common.ReadParts(common.Integer)},
		"point": {Stands: common.IsLater, Read: common.ReadParts(common.Integer, common.Integer)},
	}
}

// Print returns the text of a curve.
func Print(c Curve) (string, api.Errno) {
	if e := CheckCurve(c); e != api.OK {
		return "", e
	}
	var text strings.Builder
	common.PrintLine(&text, "curve", strconv.Itoa(len(c)))
	for _, p := range c {
		common.PrintLine(&text, "point", strconv.Itoa(p.In), strconv.Itoa(p.Out))
	}
	return text.String(), api.OK
}

// Parse returns the curve of a text, and the index of the first line that is wrong.
func Parse(s string) (Curve, int, api.Errno) {
	if len(s) > api.MaxText {
		return nil, 0, api.ErrLong
	}
	lines, at, ok := common.ReadLines(s, lineForms())
	if !ok || len(lines) == 0 {
		return nil, at, api.ErrSyntax
	}
	c := common.Mapped(lines[1:], func(l common.Line) Point {
		return Point{In: l.Numbers[0], Out: l.Numbers[1]}
	})
	e := common.First(common.ErrorIf(len(c) != lines[0].Numbers[0], api.ErrShape), CheckCurve(c))
	if e != api.OK {
		return nil, at, e
	}
	return c, 0, api.OK
}
