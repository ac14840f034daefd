package mixer_test

import (
	"slices"
	"strings"
	"testing"

	"genlock/api"
	"genlock/mixer"
)

// P6.5
func TestPrint(t *testing.T) {
	for _, s := range []string{exampleT, fullTree, "source 0", "matte -16384", "matte 0;mix 0 0 256", "matte 0;wipe 0 0 diamond -1 -2 -3 4", "matte 0;key 0 0 0 -1 1"} {
		want(t, s, results(mixer.Print(tree(s))), text(s), api.OK)
	}
	for _, x := range trees() {
		wantError(t, x.v, results(mixer.Print(x.v)), x.e, "")
	}
}

// P6.5
func TestParse(t *testing.T) {
	for _, s := range []string{exampleT, fullTree, "source 0", "matte -16384", "matte 0;mix 0 0 256", "matte 0;wipe 0 0 diamond -1 -2 -3 4", "matte 0;key 0 0 0 -1 1"} {
		want(t, s, results(mixer.Parse(text(s))), tree(s), 0, api.OK)
	}
	for _, x := range trees() {
		if x.e == api.OK {
			want(t, x, results(mixer.Parse(must[string](t)(mixer.Print(x.v)))), x.v, 0, api.OK)
		}
	}
}

// wrongLines are lines that have no form.
func wrongLines() []string {
	l := []string{"", " ", "x", "fade 1", "half 1 2 3 4", "tree 1", "-", "\xff", "\t"}
	for _, line := range []string{"source 0", "matte 0", "mix 0 0 0", "wipe 0 0 half 0 0 0 0", "key 0 0 0 0 1"} {
		l = append(l, " "+line, line+" ", line+" 0", line+" a", line+"\r", line+"\t", "x"+line, strings.ToUpper(line), strings.Replace(line, " ", "  ", 1), strings.Replace(line, " ", "\t", 1))
		words := strings.Split(line, " ")
		for i := range words {
			changed := func(word string) string {
				other := slices.Clone(words)
				other[i] = word
				return strings.Join(other, " ")
			}
			l = append(l, changed(""), strings.Join(words[:i], " "), strings.Join(slices.Delete(slices.Clone(words), i, i+1), " "))
			if i == 0 || words[i] == "half" {
				continue
			}
			for _, word := range []string{"-", "-0", "+1", "01", "00", "-01", "1a", "a1", "a", "1-", "--1", "0x1", "1_0", "1.0", "1e3", "1234567890", "-1234567890", "0000000001", "99999999999999999999", "\u0661", "\xff", "\x00", "half"} {
				l = append(l, changed(word))
			}
		}
	}
	return l
}

// P6.5: each line has its form.
func TestParseOfWrongLines(t *testing.T) {
	s := text(exampleT + ";wipe 4 3 box 1 2 3 4")
	lines := strings.SplitAfter(strings.TrimSuffix(s, "\n"), "\n")
	for _, line := range wrongLines() {
		for at := range lines {
			before, behind := strings.Join(lines[:at], ""), strings.Join(lines[at:], "")+"\n"
			want(t, results(line, at), results(mixer.Parse(before+line+"\n"+behind)), []mixer.Node{}, at, api.ErrSyntax)
			want(t, results(line, at), results(mixer.Parse(before+line+"\nnonsense\n"+behind)), []mixer.Node{}, at, api.ErrSyntax)
			if line != "" { // what stands after the last line feed is no line if it is empty
				want(t, results(line, at), results(mixer.Parse(before+line)), []mixer.Node{}, at, api.ErrSyntax)
			}
		}
	}
	for cut := range len(s) {
		if cut > 0 && s[cut-1] != '\n' {
			want(t, s[:cut], results(mixer.Parse(s[:cut])), []mixer.Node{}, strings.Count(s[:cut], "\n"), api.ErrSyntax)
		}
	}
}

// P6.5: the errors of a text whose lines have their forms.
func TestParseOfWrongTrees(t *testing.T) {
	for _, x := range []struct {
		s  string
		at int
		e  api.Errno
	}{
		{"source 8\n", 1, api.ErrRange},
		{"source -1\n", 1, api.ErrRange},
		{"source 999999999\n", 1, api.ErrRange},
		{"source -999999999\n", 1, api.ErrRange},
		{"matte 16385\n", 1, api.ErrRange},
		{"matte 0\nmatte -16385\nmatte 0\n", 3, api.ErrRange},
		{"mix 0 0 0\n", 1, api.ErrUnknown},
		{"matte 0\nmix 0 1 0\nmatte 99999\n", 3, api.ErrUnknown},
		{"matte 0\nmix -1 0 0\n", 2, api.ErrUnknown},
		{"matte 0\nmix 0 0 257\n", 2, api.ErrRange},
		{"matte 0\nmix 0 0 -1\nfade\n", 2, api.ErrSyntax},
		{"matte 0\nwipe 0 0 circle 0 0 0 0\n", 2, api.ErrKind},
		{"matte 0\nwipe 0 0 0 0 0 0 0\n", 2, api.ErrKind},
		{"matte 0\nwipe 0 0 -0 0 0 0 0\n", 2, api.ErrKind},
		{"matte 0\nwipe 0 0 \xff 0 0 0 0\n", 2, api.ErrKind},
		{"matte 0\nwipe 0 0 half\t 0 0 0 0\n", 2, api.ErrKind},
		{"matte 0\nwipe 0 0 Half 101 0 0 0\n", 2, api.ErrKind},
		{"matte 0\nwipe 0 1 Half 101 0 0 0\n", 2, api.ErrUnknown},
		{"matte 0\nwipe 0 0 half 101 0 0 0\n", 2, api.ErrRange},
		{"matte 0\nwipe 0 0 half 0 0 0 -1\n", 2, api.ErrRange},
		{"matte 0\nkey 0 0 0 0 0\n", 2, api.ErrRange},
		{"matte 0\nkey 0 0 1 0 0\n", 2, api.ErrUnknown},
		{strings.Repeat("matte 0\n", 17), 17, api.ErrMany},
		{strings.Repeat("source 9\n", 17), 17, api.ErrMany},
		{"", 0, api.ErrEmpty},
	} {
		want(t, x.s, results(mixer.Parse(x.s)), []mixer.Node{}, x.at, x.e)
	}
	sixteen := strings.Repeat("matte 0\n", 16)
	want(t, sixteen, results(mixer.Parse(sixteen)), slices.Repeat(tree("matte 0"), 16), 0, api.OK)
}

// P6.5: the length of a text.
func TestParseOfLongTexts(t *testing.T) {
	long := strings.Repeat("matte 0\n", 511) // 4088 bytes
	want(t, "4096 bytes", results(mixer.Parse(long+"matte 0\n")), []mixer.Node{}, 512, api.ErrMany)
	want(t, "4096 bytes", results(mixer.Parse(long+"12345678")), []mixer.Node{}, 511, api.ErrSyntax)
	want(t, "4097 bytes", results(mixer.Parse(long+"matte -1\n")), []mixer.Node{}, 0, api.ErrLong)
	want(t, "4097 bytes", results(mixer.Parse("source 0\n"+strings.Repeat("x", 4088))), []mixer.Node{}, 0, api.ErrLong)
	shape := "matte 0\nwipe 0 0 " + strings.Repeat("x", 4096-8-9-9) + " 0 0 0 0\n"
	want(t, "4096 bytes", results(len(shape)), 4096)
	want(t, "4096 bytes", results(mixer.Parse(shape)), []mixer.Node{}, 2, api.ErrKind)
	want(t, "4096 bytes", results(mixer.Parse(strings.Repeat("\n", 4096))), []mixer.Node{}, 0, api.ErrSyntax)
	want(t, "4097 bytes", results(mixer.Parse(strings.Repeat("\n", 4097))), []mixer.Node{}, 0, api.ErrLong)
}
