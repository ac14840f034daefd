package composite

import (
	"slices"
	"strconv"
	"strings"

	"genlock/api"
	"genlock/common"
)

// names has the first words of the lines of a text, in their order.
var names = [3]string{"luma", "u", "v"}

// lineForms returns the forms of lines by their first words.
func lineForms() map[string]common.Form {
	forms := map[string]common.Form{}
	last := ""
	for _, name := range names {
		behind := last
		isThere := func(before string) bool { return before == behind }
		forms[name] = common.Form{Stands: isThere, Read: common.ReadNumbers}
		last = name
	}
	return forms
}

// Print returns the text of parts.
func Print(p Parts) (string, api.Errno) {
	if e := CheckParts(p); e != api.OK {
		return "", e
	}
	var text strings.Builder
	for place, l := range [3][]float32{p.Luma, p.U, p.V} {
		words := common.Mapped(common.Levels(l), strconv.Itoa)
		common.PrintLine(&text, slices.Insert(words, 0, names[place])...)
	}
	return text.String(), api.OK
}

// Parse returns the parts of a text, and the index of the first line that is wrong.
func Parse(s string) (Parts, int, api.Errno) {
	if len(s) > api.MaxText {
		return Parts{}, 0, api.ErrLong
	}
	lines, at, ok := common.ReadLines(s, lineForms())
	if !ok {
		return Parts{}, at, api.ErrSyntax
	}
	p, e := fromLines(lines)
	if e != api.OK {
		return Parts{}, at, e
	}
	return p, 0, api.OK
}

// fromLines returns the parts of the lines of a text, of which there are at most as many as names.
func fromLines(l []common.Line) (Parts, api.Errno) {
	if len(l) < len(names) {
		return Parts{}, api.ErrShape
	}
	p, large := integers{luma: l[0].Numbers, u: l[1].Numbers, v: l[2].Numbers}.parts()
	e := common.First(common.ErrorIf(large != api.OK, api.ErrRange), CheckParts(p))
	if e != api.OK {
		return Parts{}, e
	}
	return p, api.OK
}
