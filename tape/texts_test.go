package tape_test

import (
	"slices"
	"strconv"
	"strings"
	"testing"

	"genlock/api"
	"genlock/tape"
)

// textOf returns the text of a list.
func textOf(l []tape.Edit) string {
	text := ""
	for _, x := range l {
		text += "edit " + x.Reel
		for _, n := range []int{x.In, x.Out, x.Fade, x.Sound} {
			text += " " + strconv.Itoa(n)
		}
		text += "\n"
	}
	return text
}

// P8.4: the document's example 9.
func TestExampleText(t *testing.T) {
	l := edits(edit("a", 11, 14, 0, 0), edit("b", 50, 53, 1, -1), edit("a", 15, 16, 0, 0))
	text := "edit a 11 14 0 0\nedit b 50 53 1 -1\nedit a 15 16 0 0\n"
	want(t, l, results(tape.Print(l)), text, api.OK)
	want(t, text, results(tape.Parse(text)), l, 0, api.OK)
}

// P8.4: texts of lists, and their errors; a text need not be one of a list without an error.
func TestPrint(t *testing.T) {
	for _, l := range givenTexts() {
		wantError(t, l.v, results(tape.Print(l.v)), l.e, "")
		if l.e == api.OK {
			want(t, l.v, results(tape.Print(l.v)), textOf(l.v), api.OK)
		}
	}
	want(t, "any numbers", results(tape.Print(edits(edit("Z_9", -7, 0, 999999999, -999999999), edit("none", 9, 3, -1, 101)))), "edit Z_9 -7 0 999999999 -999999999\nedit none 9 3 -1 101\n", api.OK)
}

// P8.4: what is parsed has the errors of Print, behind the last line.
func TestParse(t *testing.T) {
	for _, l := range givenTexts() {
		text := textOf(l.v)
		e, at := l.e, len(l.v)
		large := slices.IndexFunc(l.v, isLarge)
		switch {
		case slices.ContainsFunc(l.v, isNoWord), len(text) > 4096:
			continue
		case large >= 0: // an integer has at most 9 digits
			at, e = large, api.ErrSyntax
		case e == api.OK:
			at = 0
		}
		want(t, text, results(tape.Parse(text)), map[bool][]tape.Edit{true: l.v}[e == api.OK], at, e)
	}
	for s, x := range map[string]given[int]{
		"": {0, api.OK}, "\n": {0, api.ErrSyntax}, "edit a 1 2 3 4": {0, api.ErrSyntax}, "edit a 1 2 3 4\n\n": {1, api.ErrSyntax}, "edit a 1 2 3 4\nedit a 1 2 3 4": {1, api.ErrSyntax}, "edit a 1 2 3 4\nedit 1a 1 2 3 4\n": {2, api.ErrName}, "edit a? 1 2 3 4\nedit a 1 2 3 4\n": {2, api.ErrName}, "edit a? 1 2 3 4\nedit a 1 2 3\n": {1, api.ErrSyntax}, "edit a\t1 1 2 3 4\n": {1, api.ErrName}, "edit edit 1 2 3 4\nedit 7 1 2 3 4\n": {2, api.ErrName}, "edit \xff 1 2 3 4\n": {1, api.ErrName}, "edit \x00 1 2 3 4\n": {1, api.ErrName},
		strings.Repeat("edit a 0 0 0 0\n", 17): {17, api.ErrMany}, strings.Repeat("edit a 0 0 0 0\n", 17) + "x": {17, api.ErrSyntax}, strings.Repeat("edit ? 0 0 0 0\n", 17): {17, api.ErrMany}, strings.Repeat("edit a 0 0 0 0\n", 273): {273, api.ErrMany}, strings.Repeat("edit a 0 0 0 0\n", 273) + "\n": {273, api.ErrSyntax}, strings.Repeat("edit a 0 0 0 0\n", 273) + "\n\n": {0, api.ErrLong},
		strings.Repeat("x", 4096): {0, api.ErrSyntax}, strings.Repeat("x", 4097): {0, api.ErrLong}, strings.Repeat("\n", 4097): {0, api.ErrLong}, "edit " + strings.Repeat("x", 4082) + " 0 0 0 0\n": {1, api.ErrName}, "edit " + strings.Repeat("x", 4083) + " 0 0 0 0\n": {0, api.ErrLong},
	} {
		want(t, s, results(tape.Parse(s)), []tape.Edit{}, x.v, x.e)
	}
	want(t, "24 bytes", results(tape.Parse("edit "+strings.Repeat("x", 24)+" 0 0 0 0\n")), edits(edit(strings.Repeat("x", 24), 0, 0, 0, 0)), 0, api.OK)
}

// isLarge reports whether a number of an edit has more than 9 digits.
func isLarge(x tape.Edit) bool {
	return slices.ContainsFunc([]int{x.In, x.Out, x.Fade, x.Sound}, func(n int) bool { return n < -999999999 || n > 999999999 })
}

// isNoWord reports whether the reel of an edit is not one word of a line.
func isNoWord(x tape.Edit) bool {
	return x.Reel == "" || strings.ContainsAny(x.Reel, " \n")
}

// P8.4: lines without their form.
func TestParsedLines(t *testing.T) {
	line := "edit a 1 2 3 4\n"
	for _, wrong := range []string{
		"edit\n", "edit \n", "edit a\n", "edit a 1 2 3\n", "edit a 1 2 3 \n", "edit a 1 2 3 4 5\n", "edit a 1 2 3 4 \n", " edit a 1 2 3 4\n", "edit  a 1 2 3 4\n", "edit a  1 2 3 4\n", "edit  1 2 3 4\n", "edit a 1 2  3 4\n", "edit\ta 1 2 3 4\n", "edit a 1 2 3\t4\n", "edit a 1 2 3 4\r\n", "edit a b 1 2 3\n", "edit 1 2 3 4\n",
		"Edit a 1 2 3 4\n", "edits a 1 2 3 4\n", "edi a 1 2 3 4\n", "a 1 2 3 4\n", "reel a 1 2 3 4\n", "# edit a 1 2 3 4\n",
	} {
		want(t, wrong, results(tape.Parse(wrong)), []tape.Edit{}, 0, api.ErrSyntax)
		want(t, wrong, results(tape.Parse(line+line+wrong+line)), []tape.Edit{}, 2, api.ErrSyntax)
	}
	for _, word := range []string{"", "-", "-0", "00", "01", "-01", "+1", "--1", "1-", "1a", "a", "0x1", "1_0", "1.0", "1e3", "1000000000", "-1000000000", "0000000001", "99999999999999999999", "\u0661", "\xff"} {
		for i := range 4 {
			words := []string{"1", "2", "3", "4"}
			words[i] = word
			wrong := "edit a " + strings.Join(words, " ") + "\n"
			want(t, wrong, results(tape.Parse(line+wrong+"x")), []tape.Edit{}, 1, api.ErrSyntax)
		}
	}
	for word, n := range map[string]int{"0": 0, "7": 7, "-1": -1, "999999999": 999999999, "-999999999": -999999999, "10": 10, "-100": -100} {
		want(t, word, results(tape.Parse("edit a "+word+" "+word+" "+word+" "+word+"\n")), edits(edit("a", n, n, n, n)), 0, api.OK)
	}
}

// P8.4 and P1: texts that are nearly those of lists are parsed to what they are printed from, or not at all.
func TestAllTexts(t *testing.T) {
	d := dice(7)
	parsed := 0
	for range 20000 {
		s := []byte("edit a 11 14 0 0\nedit b 51 53 1 -1\n")
		for range 1 + d.below(3) {
			s[d.below(len(s))] = " \n-0123456789abedit\xff"[d.below(20)]
		}
		if d.below(2) == 0 {
			s = slices.Concat(s[:d.below(len(s)+1)], s[d.below(len(s)+1):])
		}
		l, at, e := tape.Parse(string(s))
		lines := strings.Count(string(s), "\n")
		switch {
		case e == api.OK:
			parsed++
			want(t, string(s), results(tape.Print(l)), string(s), api.OK)
			want(t, string(s), results(at), 0)
		case len(l) > 0 || e == api.ErrSyntax && (at < 0 || at > lines) || e != api.ErrSyntax && at != lines:
			t.Errorf("%q: got %+v, %d beside the error %d", s, l, at, e)
		}
	}
	if parsed < 100 {
		t.Errorf("only %d", parsed)
	}
}
