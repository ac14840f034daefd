package common

import (
	"slices"
	"strings"
)

// maxDigits is how many digits an integer of a text has at most.
const maxDigits = 9

// Line is what the words of a line say, behind the first one: words that are no integers, and integers.
type Line struct {
	Words   []string
	Numbers []int
}

// Form says where the lines with a first word stand, and reads the words behind it; Read reports whether they are right.
type Form struct {
	Stands func(at int) bool
	Read   func(take func() (string, bool)) (Line, bool)
}

// IsFirst reports whether an index is that of the first line.
func IsFirst(at int) bool {
	return at == 0
}

// IsLater reports whether an index is that of a line behind the first one.
func IsLater(at int) bool {
	return at > 0
}

// IsAny reports that a line may stand at every index.
func IsAny(int) bool {
	return true
}

// PrintLine adds a line with these words to a text.
func PrintLine(text *strings.Builder, words ...string) {
	text.WriteString(strings.Join(words, " "))
	text.WriteByte('\n')
}

// ReadLines returns what the lines of a text say, by the forms of their first words, the number of lines, and true (the empty text has no lines); if a line is wrong, it returns what the lines before the first such one say, its index, and false.
func ReadLines(text string, forms map[string]Form) ([]Line, int, bool) {
	lines := splitLines(text)
	var read []Line
	for at, line := range lines {
		l, ok := readLine(forms, line, at)
		if !ok {
			return read, at, false
		}
		read = append(read, l)
	}
	return read, len(lines), true
}

// splitLines returns the lines of a text, each with its line feed; what stands behind the last line feed is a line, too, if it is not empty.
func splitLines(text string) []string {
	lines := strings.SplitAfter(text, "\n")
	if last := len(lines) - 1; lines[last] == "" {
		return lines[:last]
	}
	return lines
}

// readLine returns what the line at an index says, and whether it has its form.
func readLine(forms map[string]Form, line string, at int) (Line, bool) {
	line, whole := strings.CutSuffix(line, "\n")
	words := &wordList{rest: strings.Split(line, " ")}
	take := words.take
	word, _ := take()
	form, known := forms[word]
	if !whole || !known || !form.Stands(at) {
		return Line{}, false
	}
	return form.Read(take)
}

// ReadWords returns what reads a line of so many words, which are not empty, and so many integers behind them.
func ReadWords(words, numbers int) func(take func() (string, bool)) (Line, bool) {
	return func(take func() (string, bool)) (Line, bool) {
		var taken []string
		for range words {
			word, _ := take()
			taken = append(taken, word)
		}
		l, ok := ReadNumbers(take)
		l.Words = taken
		return l, ok && len(l.Numbers) == numbers && !slices.Contains(taken, "")
	}
}

// ReadNumbers reads integers up to the end of a line.
func ReadNumbers(take func() (string, bool)) (Line, bool) {
	var l Line
	for word, ok := take(); ok; word, ok = take() {
		n, right := number(word)
		if !right {
			return Line{}, false
		}
		l.Numbers = append(l.Numbers, n)
	}
	return l, true
}

// number returns the integer of a word, and whether it is one. The digits are counted first, so that no word is too long for an int.
func number(word string) (int, bool) {
	digits, negative := strings.CutPrefix(word, "-")
	if len(digits) < 1 || len(digits) > maxDigits {
		return 0, false
	}
	if digits[0] == '0' && (negative || len(digits) > 1) {
		return 0, false
	}
	n := 0
	for _, r := range digits {
		if r < '0' || r > '9' {
			return 0, false
		}
		n = 10*n + int(r-'0')
	}
	if negative {
		return -n, true
	}
	return n, true
}

// wordList is words of which one after the other is taken.
type wordList struct {
	rest []string
}

// take returns the next word, and whether there is one.
func (l *wordList) take() (string, bool) {
	if len(l.rest) == 0 {
		return "", false
	}
	word := l.rest[0]
	l.rest = l.rest[1:]
	return word, true
}
