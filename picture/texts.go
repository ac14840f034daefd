package picture

import (
	"slices"
	"strconv"
	"strings"

	"genlock/api"
)

// maxDigits is how many digits an integer of a text has at most.
const maxDigits = 9

// textLine is what a line of a text says: its name, if it has one, and its integers.
type textLine struct {
	name    string
	numbers []int
}

// lineForm says where the lines with a first word stand, and reads the words behind it; read reports whether they are right.
type lineForm struct {
	stands func(at int) bool
	read   func(take func() (string, bool)) (textLine, bool)
}

// lineForms returns the forms of lines by their first words.
func lineForms() map[string]lineForm {
	return map[string]lineForm{
		"picture": {stands: func(at int) bool { return at == 0 }, read: readHead},
		"row":     {stands: func(at int) bool { return at > 0 }, read: readNumbers},
	}
}

// Print returns the text of a picture.
func Print(p Picture) (string, api.Errno) {
	if e := CheckPicture(p); e != api.OK {
		return "", e
	}
	var text strings.Builder
	printLine(&text, "picture", p.Name, strconv.Itoa(p.Width), strconv.Itoa(p.Height))
	words := mapped(levels(p), strconv.Itoa)
	for row := range slices.Chunk(words, p.Width) {
		printLine(&text, append([]string{"row"}, row...)...)
	}
	return text.String(), api.OK
}

// printLine adds a line with these words to a text.
func printLine(text *strings.Builder, words ...string) {
	text.WriteString(strings.Join(words, " "))
	text.WriteByte('\n')
}

// Parse returns the picture of a text, and the index of the first line that is wrong.
func Parse(s string) (Picture, int, api.Errno) {
	if len(s) > api.MaxLog {
		return Picture{}, 0, api.ErrLong
	}
	lines := splitLines(s)
	read := make([]textLine, len(lines))
	forms := lineForms()
	for at, line := range lines {
		l, ok := readLine(forms, line, at)
		if !ok {
			return Picture{}, at, api.ErrSyntax
		}
		read[at] = l
	}
	p, e := fromLines(read)
	if e != api.OK {
		return Picture{}, len(lines), e
	}
	return p, 0, api.OK
}

// splitLines returns the lines of a text, each with its line feed. The empty text has one empty line, which is wrong in any place.
func splitLines(s string) []string {
	lines := strings.SplitAfter(s, "\n")
	if n := len(lines); n > 1 && lines[n-1] == "" {
		return lines[:n-1]
	}
	return lines
}

// readLine returns what the line at an index says, and whether it has its form.
func readLine(forms map[string]lineForm, line string, at int) (textLine, bool) {
	line, whole := strings.CutSuffix(line, "\n")
	words := &wordList{rest: strings.Split(line, " ")}
	take := words.take
	word, _ := take()
	form, known := forms[word]
	if !whole || !known || !form.stands(at) {
		return textLine{}, false
	}
	return form.read(take)
}

// readHead reads a name, the width and the height.
func readHead(take func() (string, bool)) (textLine, bool) {
	name, _ := take()
	l, ok := readNumbers(take)
	l.name = name
	return l, ok && name != "" && len(l.numbers) == 2
}

// readNumbers reads at least one integer.
func readNumbers(take func() (string, bool)) (textLine, bool) {
	var l textLine
	for word, ok := take(); ok; word, ok = take() {
		n, right := number(word)
		if !right {
			return textLine{}, false
		}
		l.numbers = append(l.numbers, n)
	}
	return l, len(l.numbers) > 0
}

// number returns the integer of a word, and whether it is one. The digits are counted first, so that no word is too long for an int.
func number(word string) (int, bool) {
	if len(strings.TrimPrefix(word, "-")) > maxDigits {
		return 0, false
	}
	n, err := strconv.Atoi(word)
	return n, err == nil && strconv.Itoa(n) == word
}

// fromLines returns the picture of the lines of a text.
func fromLines(l []textLine) (Picture, api.Errno) {
	p := Picture{Name: l[0].name, Width: l[0].numbers[0], Height: l[0].numbers[1]}
	var all []int
	misshapen := len(l)-1 != p.Height
	for _, row := range l[1:] {
		misshapen = misshapen || len(row.numbers) != p.Width
		all = append(all, row.numbers...)
	}
	e := first(errorIf(misshapen, api.ErrShape), errorIf(slices.ContainsFunc(all, isLarge), api.ErrLarge))
	if e != api.OK {
		return Picture{}, e
	}
	p.Samples = mapped(all, sample)
	if e := CheckPicture(p); e != api.OK {
		return Picture{}, e
	}
	return p, api.OK
}

// wordList is words of which one after the other is taken.
type wordList struct {
	rest []string
}

// take returns the next word, and whether there is one.
func (l *wordList) take() (string, bool) {
	if len(l.rest) == 0 {
		return "", false
	}
	word := l.rest[0]
	l.rest = l.rest[1:]
	return word, true
}
