package code

import (
	"strconv"
	"strings"

	"genlock/api"
	"genlock/common"
)

// labelSize is how many bytes the text of a label has.
const labelSize = 11

// maxDigits is how many digits the numbers of a text have at most, but for the parts of its label, which have two.
const maxDigits = 5

// Print returns the text of a stamp.
func Print(s Stamp) (string, api.Errno) {
	if e := CheckStamp(s); e != api.OK {
		return "", e
	}
	name := s.Rate.name()
	label := common.Mapped(parts(s.Rate, s.Label), func(p part) string {
		return strconv.Itoa(p.value()/10) + strconv.Itoa(p.value()%10)
	})
	return strings.Join(label[:3], partMark) + name.mark + label[3] + " at " + name.frames + " " + strconv.Itoa(s.User), api.OK
}

// Parse returns the stamp of a text.
func Parse(s string) (Stamp, api.Errno) {
	if len(s) > api.MaxText {
		return Stamp{}, api.ErrLong
	}
	stamp, ok := stampOfText(s)
	if e := common.First(common.ErrorIf(!ok, api.ErrSyntax), CheckStamp(stamp)); e != api.OK {
		return Stamp{}, e
	}
	return stamp, api.OK
}

// stampOfText returns the stamp of a text, which may have an error, and whether the text has its form.
func stampOfText(s string) (Stamp, bool) {
	words := strings.Split(s, " ")
	if len(words) != 4 || words[1] != "at" {
		return Stamp{}, false
	}
	label, drop, ok := labelOfText(words[0])
	frames, right := number(words[2])
	user, whole := number(words[3])
	return Stamp{Rate: Rate{Frames: frames, Drop: drop}, Label: label, User: user}, ok && right && whole
}

// labelOfText returns the label of a text, whether numbers are dropped, and whether the text has its form.
func labelOfText(s string) (Label, bool, bool) {
	if len(s) != labelSize {
		return Label{}, false, false
	}
	marks := s[2:3] + s[5:6] + s[8:9]
	drop := marks == partMark+partMark+dropMark
	ok := drop || marks == partMark+partMark+partMark
	var values [4]int
	for i := range values {
		value, right := common.Digits(s[3*i : 3*i+2])
		values[i], ok = value, ok && right
	}
	return Label{Hours: values[0], Minutes: values[1], Seconds: values[2], Frames: values[3]}, drop, ok
}

// number returns the number of a word, and whether it is one without leading zeros.
func number(word string) (int, bool) {
	n, right := common.Digits(word)
	return n, right && len(word) <= maxDigits && strconv.Itoa(n) == word
}
