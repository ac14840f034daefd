package common

import (
	"slices"
	"strings"
)

// maxDigits is how many digits an integer of a text has at most.
const maxDigits = 9

// Line is the first word of a line, and what the words behind it say: words that are no integers, and integers.
type Line struct {
	First   string
	Words   []string
	Numbers []int
}

// Form says where the lines with a first word stand, and reads the words behind it; Read reports whether they are right. Stands gets the first word of the line before, which is empty for the first line alone.
type Form struct {
	Stands func(before string) bool
	Read   func(take func() (string, bool)) (Line, bool)
}

// Part adds what a word says to a line, and reports whether it is right.
type Part func(l *Line, word string) bool

// IsFirst reports whether a line with this one before it is the first one.
func IsFirst(before string) bool {
	return before == ""
}

// IsLater reports whether a line with this one before it stands behind the first one.
func IsLater(before string) bool {
	return before != ""
}

// IsAny reports that a line may stand everywhere.
func IsAny(string) bool {
	return true
}

// PrintLine adds a line with these words to a text.
func PrintLine(text *strings.Builder, words ...string) {
	text.WriteString(strings.Join(words, " "))
	text.WriteByte('\n')
}

// ReadLines returns what the lines of a text say, by the forms of their first words, the number of lines, and true (the empty text has no lines); if a line is wrong, it returns what the lines before the first such one say, its index, and false.
func ReadLines(text string, forms map[string]Form) ([]Line, int, bool) {
	lines := splitLines(text)
	var read []Line
	before := ""
	for at, line := range lines {
		l, ok := readLine(forms, line, before)
		if !ok {
			return read, at, false
		}
		read = append(read, l)
		before = l.First
	}
	return read, len(lines), true
}

// splitLines returns the lines of a text, each with its line feed; what stands behind the last line feed is a line, too, if it is not empty.
func splitLines(text string) []string {
	lines := strings.SplitAfter(text, "\n")
	if last := len(lines) - 1; lines[last] == "" {
		return lines[:last]
	}
	return lines
}

// readLine returns what a line says, and whether it has its form, and stands where it may.
func readLine(forms map[string]Form, line, before string) (Line, bool) {
	line, whole := strings.CutSuffix(line, "\n")
	words := &wordList{rest: strings.Split(line, " ")}
	take := words.take
	word, _ := take()
	form, known := forms[word]
	if !whole || !known || !form.Stands(before) {
		return Line{}, false
	}
	l, ok := form.Read(take)
	l.First = word
	return l, ok
}

// ReadParts returns what reads a line of these parts, each of them one word.
func ReadParts(parts ...Part) func(take func() (string, bool)) (Line, bool) {
	return func(take func() (string, bool)) (Line, bool) {
		var l Line
		for _, add := range parts {
			word, ok := take()
			if !ok || !add(&l, word) {
				return Line{}, false
			}
		}
		_, more := take()
		return l, !more
	}
}

// Word adds a word that is not empty.
func Word(l *Line, word string) bool {
	l.Words = append(l.Words, word)
	return word != ""
}

// Integer adds an integer.
func Integer(l *Line, word string) bool {
	n, right := number(word)
	l.Numbers = append(l.Numbers, n)
	return right
}

// Count adds an integer without a sign.
func Count(l *Line, word string) bool {
	return Integer(l, word) && !strings.HasPrefix(word, "-")
}

// OneOf returns what adds a word that is one of these.
func OneOf(words ...string) Part {
	return func(l *Line, word string) bool {
		l.Words = append(l.Words, word)
		return slices.Contains(words, word)
	}
}

// ReadNumbers reads integers up to the end of a line.
func ReadNumbers(take func() (string, bool)) (Line, bool) {
	var l Line
	for word, ok := take(); ok; word, ok = take() {
		n, right := number(word)
		if !right {
			return Line{}, false
		}
		l.Numbers = append(l.Numbers, n)
	}
	return l, true
}

// number returns the integer of a word, and whether it is one.
func number(word string) (int, bool) {
	digits, negative := strings.CutPrefix(word, "-")
	if strings.HasPrefix(digits, "0") && (negative || len(digits) > 1) {
		return 0, false
	}
	n, right := Digits(digits)
	if negative {
		return -n, right
	}
	return n, right
}

// Digits returns the number of a word of 1 to 9 digits, of which the first ones may be 0, and whether it is such a word.
func Digits(word string) (int, bool) {
	if len(word) < 1 || len(word) > maxDigits { // what is longer may be too large for an int
		return 0, false
	}
	n := 0
	for _, r := range word {
		if r < '0' || r > '9' {
			return 0, false
		}
		n = 10*n + int(r-'0')
	}
	return n, true
}

// wordList is words of which one after the other is taken.
type wordList struct {
	rest []string
}

// take returns the next word, and whether there is one.
func (l *wordList) take() (string, bool) {
	if len(l.rest) == 0 {
		return "", false
	}
	word := l.rest[0]
	l.rest = l.rest[1:]
	return word, true
}
