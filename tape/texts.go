package tape

import (
	"slices"
	"strconv"
	"strings"

	"genlock/api"
	"genlock/common"
	"genlock/picture"
)

// editWord is the first word of the line of an edit.
const editWord = "edit"

// lineForms returns the forms of lines by their first words.
func lineForms() map[string]common.Form {
	return map[string]common.Form{
		editWord: {Stands: common.IsAny, Read: common.ReadParts(common.Word, common.Integer, common.Integer, common.Integer, common.Integer)},
	}
}

// Print returns the text of an edit list.
func Print(l []Edit) (string, api.Errno) {
	if e := textError(l); e != api.OK {
		return "", e
	}
	var text strings.Builder
	for _, e := range l {
		words := slices.Concat([]string{editWord, e.Reel}, common.Mapped(e.numbers(), strconv.Itoa))
		common.PrintLine(&text, words...)
	}
	return text.String(), api.OK
}

// Parse returns the edit list of a text, and the index of the first line that is wrong.
func Parse(s string) ([]Edit, int, api.Errno) {
	if len(s) > api.MaxText {
		return nil, 0, api.ErrLong
	}
	lines, at, ok := common.ReadLines(s, lineForms())
	l := common.Mapped(lines, editOf)
	if e := common.First(common.ErrorIf(!ok, api.ErrSyntax), textError(l)); e != api.OK {
		return nil, at, e
	}
	return l, 0, api.OK
}

// textError returns the error of a list that is printed, or OK.
func textError(l []Edit) api.Errno {
	if len(l) > MaxEdits {
		return api.ErrMany
	}
	return common.FirstOf(l, func(e Edit) api.Errno {
		return common.First(
			common.ErrorIf(!picture.IsName(e.Reel), api.ErrName),
			common.FirstOf(e.numbers(), func(n int) api.Errno { return common.Outside(n, -api.MaxNumber, api.MaxNumber) }),
		)
	})
}

// numbers returns the numbers of an edit, as they stand in its line.
func (e Edit) numbers() []int {
	return []int{e.In, e.Out, e.Fade, e.Sound}
}

// editOf returns the edit of a line.
func editOf(l common.Line) Edit {
	return Edit{Reel: l.Words[0], In: l.Numbers[0], Out: l.Numbers[1], Fade: l.Numbers[2], Sound: l.Numbers[3]}
}
