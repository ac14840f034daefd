package composite_test

import (
	"fmt"
	"strings"
	"testing"

	"genlock/api"
	"genlock/composite"
)

const textP = "luma 160 320 160 320\nu 48\nv -32\n"

// printed returns the text of any integers.
func printed(luma, u, v []int) string {
	var s strings.Builder
	for i, l := range [][]int{luma, u, v} {
		s.WriteString([]string{"luma", "u", "v"}[i])
		for _, n := range l {
			fmt.Fprintf(&s, " %d", n)
		}
		s.WriteString("\n")
	}
	return s.String()
}

// P3.5
func TestPrint(t *testing.T) {
	want(t, "P", results(composite.Print(partsP())), textP, api.OK)
	want(t, "nothing", results(composite.Print(composite.Parts{})), "luma\nu\nv\n", api.OK)
	zeros := composite.Parts{Luma: []float32{minus0, 0, -1024, 1024}, U: []float32{minus0}, V: []float32{-0.0625}}
	want(t, "zeros", results(composite.Print(zeros)), "luma 0 0 -16384 16384\nu 0\nv -1\n", api.OK)
	for _, p := range partses() {
		wantError(t, p.v, results(composite.Print(p.v)), p.e, "")
	}
}

// P3.5
func TestParse(t *testing.T) {
	want(t, "P", results(composite.Parse(textP)), partsP(), 0, api.OK)
	want(t, "nothing", results(composite.Parse("luma\nu\nv\n")), composite.Parts{}, 0, api.OK)
	want(t, "the greatest", results(composite.Parse("luma 0 -1 -16384 16384\nu -16384\nv 16384\n")), composite.Parts{Luma: samples(0, -1, -16384, 16384), U: []float32{-1024}, V: []float32{1024}}, 0, api.OK)
}

// P3.5: each line, in each place, has its form.
func TestParseOfWrongLines(t *testing.T) {
	right := []string{"luma 160 320 160 320", "u 48", "v -32"}
	words := []string{"", " ", "x", "luma", "u", "v", "Luma", "U", "V", "lumax", "picture", "0", "\xff", "u v", "y", " luma", " u", " v"}
	behind := []string{" ", "  1", " 1 ", " 1  2", " x", " 1x", " 01", " -01", " 00", " -0", " +1", " --1", " -", " 1-", " 1.5", " 1e3", " 0x1", " 1_0", " 1234567890", " -1234567890", " 99999999999999999999", "\t1", " 1\r", "\r", " 1,2", " \u0661", " \xff", " 1 2 -0", "\x00"}
	for place, name := range []string{"luma", "u", "v"} {
		lines := append([]string(nil), behind...)
		for i, word := range behind {
			lines[i] = name + word
		}
		for _, word := range words {
			if word != name {
				lines = append(lines, word, word+" 1")
			}
		}
		for _, line := range lines {
			all := append([]string(nil), right...)
			all[place] = line
			want(t, line, results(composite.Parse(strings.Join(all, "\n")+"\n")), composite.Parts{}, place, api.ErrSyntax)
			want(t, line, results(composite.Parse(strings.Join(all, "\n")+"\nnonsense")), composite.Parts{}, place, api.ErrSyntax)
			if line != "" { // what stands after the last line feed is no line if it is empty
				want(t, line, results(composite.Parse(strings.Join(all[:place+1], "\n"))), composite.Parts{}, place, api.ErrSyntax)
			}
		}
		cut := strings.Join(right[:place+1], "\n") // without a line feed at the end
		want(t, cut, results(composite.Parse(cut)), composite.Parts{}, place, api.ErrSyntax)
	}
	for _, line := range []string{"\n", "x", "luma 1\n", "u\n", "v\n", "v 1\nv 1\n", " ", "luma"} {
		want(t, line, results(composite.Parse(textP+line)), composite.Parts{}, 3, api.ErrSyntax)
	}
	want(t, "another order", results(composite.Parse("u 48\nluma 160 320 160 320\nv -32\n")), composite.Parts{}, 0, api.ErrSyntax)
	want(t, "another order", results(composite.Parse("luma 160 320 160 320\nv -32\nu 48\n")), composite.Parts{}, 1, api.ErrSyntax)
}

// P3.5: the errors of a text whose lines have their forms.
func TestParseOfWrongParts(t *testing.T) {
	four := []int{1, 2, 3, 4}
	for _, x := range []struct {
		s  string
		at int
		e  api.Errno
	}{
		{"", 0, api.ErrShape},
		{"luma\n", 1, api.ErrShape},
		{"luma 1 2 3 4\nu 1\n", 2, api.ErrShape},
		{"luma 99999\nu -99999\n", 2, api.ErrShape},
		{printed([]int{16385, 2, 3, 4}, []int{5}, []int{6}), 3, api.ErrRange},
		{printed([]int{1, 2, 3, -16385}, []int{5}, []int{6}), 3, api.ErrRange},
		{printed(four, []int{999999999}, []int{6}), 3, api.ErrRange},
		{printed(four, []int{5}, []int{-999999999}), 3, api.ErrRange},
		{printed([]int{1, 2}, []int{5, 5}, []int{16385}), 3, api.ErrRange},
		{printed(make([]int, 260), nil, []int{-16385}), 3, api.ErrRange},
		{printed(make([]int, 260), make([]int, 65), make([]int, 65)), 3, api.ErrMany},
		{printed(make([]int, 257), nil, nil), 3, api.ErrMany},
		{printed([]int{1}, nil, nil), 3, api.ErrShape},
		{printed(four, nil, []int{5}), 3, api.ErrShape},
		{printed(four, []int{5}, nil), 3, api.ErrShape},
		{printed(four, []int{5}, []int{6, 7}), 3, api.ErrShape},
		{printed(nil, []int{5}, nil), 3, api.ErrShape},
	} {
		want(t, x.s, results(composite.Parse(x.s)), composite.Parts{}, x.at, x.e)
	}
}

// P3.5: the length of a text.
func TestParseOfLongTexts(t *testing.T) {
	long := "luma" + strings.Repeat(" 1", 2040) + "\nu\nv\n" // 4089 bytes
	want(t, "4089 bytes", results(composite.Parse(long)), composite.Parts{}, 3, api.ErrMany)
	want(t, "4096 bytes", results(composite.Parse(long[:len(long)-1]+" 100 22\n")), composite.Parts{}, 3, api.ErrMany)
	want(t, "4096 bytes", results(composite.Parse(long+"1234567")), composite.Parts{}, 3, api.ErrSyntax)
	want(t, "4097 bytes", results(composite.Parse(long+"12345678")), composite.Parts{}, 0, api.ErrLong)
	want(t, "4096 bytes", results(composite.Parse(strings.Repeat("x", 4096))), composite.Parts{}, 0, api.ErrSyntax)
	want(t, "4097 bytes", results(composite.Parse(strings.Repeat("\n", 4097))), composite.Parts{}, 0, api.ErrLong)
}
