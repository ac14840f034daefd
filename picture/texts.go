package picture

import (
	"slices"
	"strconv"
	"strings"

	"genlock/api"
	"genlock/common"
)

// lineForms returns the forms of lines by their first words.
func lineForms() map[string]common.Form {
	return map[string]common.Form{
		"picture": {Stands: common.IsFirst, Read: common.ReadParts(common.Word, common.Integer, common.Integer)},
		"row":     {Stands: common.IsLater, Read: readRow},
	}
}

// Print returns the text of a picture.
func Print(p Picture) (string, api.Errno) {
	if e := CheckPicture(p); e != api.OK {
		return "", e
	}
	var text strings.Builder
	common.PrintLine(&text, "picture", p.Name, strconv.Itoa(p.Width), strconv.Itoa(p.Height))
	words := common.Mapped(common.Levels(p.Samples), strconv.Itoa)
	for row := range slices.Chunk(words, p.Width) {
		common.PrintLine(&text, append([]string{"row"}, row...)...)
	}
	return text.String(), api.OK
}

// Parse returns the picture of a text, and the index of the first line that is wrong.
func Parse(s string) (Picture, int, api.Errno) {
	if len(s) > api.MaxLog {
		return Picture{}, 0, api.ErrLong
	}
	lines, at, ok := common.ReadLines(s, lineForms())
	if !ok || len(lines) == 0 {
		return Picture{}, at, api.ErrSyntax
	}
	p, e := fromLines(lines)
	if e != api.OK {
		return Picture{}, at, e
	}
	return p, 0, api.OK
}

// readRow reads at least one integer.
func readRow(take func() (string, bool)) (common.Line, bool) {
	l, ok := common.ReadNumbers(take)
	return l, ok && len(l.Numbers) > 0
}

// fromLines returns the picture of the lines of a text.
func fromLines(l []common.Line) (Picture, api.Errno) {
	p := Picture{Name: l[0].Words[0], Width: l[0].Numbers[0], Height: l[0].Numbers[1]}
	var all []int
	misshapen := len(l)-1 != p.Height
	for _, row := range l[1:] {
		misshapen = misshapen || len(row.Numbers) != p.Width
		all = append(all, row.Numbers...)
	}
	samples, e := common.Samples(all)
	p.Samples = samples
	e = common.First(common.ErrorIf(misshapen, api.ErrShape), e, CheckPicture(p))
	if e != api.OK {
		return Picture{}, e
	}
	return p, api.OK
}
