package router_test

import (
	"strings"
	"testing"

	"genlock/api"
	"genlock/router"
)

// textR is the text of R.
const textR = "router 2 2\nsource cam 0\nsource vtr 1\ndestination mon 0 free\ndestination air 1 free\ndestination rec 1 free\ntie t 0 1\ntie u 0 1\n"

// textP is the text of R with a protected destination and points.
const textP = "router 2 2\nsource cam 0\nsource vtr 1\ndestination mon 0 free\ndestination air 1 protected\ndestination rec 1 free\ntie t 0 1\ntie u 0 1\npoint 0 air vtr\npoint 0 rec t\npoint 0 t cam\npoint 1 air vtr\n"

// P5.4
func TestPrint(t *testing.T) {
	want(t, "R", results(router.Print(routerR(""))), textR, api.OK)
	want(t, "R with points", results(router.Print(hold(points4, "air"))), textP, api.OK)
	want(t, "no ports", results(router.Print(router.Router{Levels: 3, Matrices: 4})), "router 3 4\n", api.OK)
	want(t, "full", results(len(must[string](t)(router.Print(full())))), 11+8*12+4*22+4*27+6*11)
	for _, r := range routers() {
		wantError(t, r.v, results(router.Print(r.v)), r.e, "")
	}
}

// P5.4
func TestParse(t *testing.T) {
	want(t, "R", results(router.Parse(textR)), routerR(""), 0, api.OK)
	want(t, "R with points", results(router.Parse(textP)), hold(points4, "air"), 0, api.OK)
	want(t, "no ports", results(router.Parse("router 3 4\n")), router.Router{Levels: 3, Matrices: 4}, 0, api.OK)
	want(t, "some kinds", results(router.Parse("router 1 1\ndestination d 0 protected\n")), router.Router{Levels: 1, Matrices: 1, Destinations: []router.Destination{{Name: "d", Protected: true}}}, 0, api.OK)
	want(t, "names that are words of the text", results(router.Parse("router 1 1\nsource source 0\ndestination free 0 free\npoint 0 free source\n")), router.Router{Levels: 1, Matrices: 1, Sources: []router.Source{{Name: "source"}}, Destinations: []router.Destination{{Name: "free"}}, Points: points("0 free source")}, 0, api.OK)
	for _, r := range routers() {
		if r.e == api.OK {
			want(t, r, results(router.Parse(must[string](t)(router.Print(r.v)))), r.v, 0, api.OK)
		}
	}
}

// lineKinds has for each kind of lines a right line, and what may stand for each of its words in it.
func lineKinds() [][]string {
	return [][]string{{"router", "1", "1"}, {"source", "a", "0"}, {"destination", "b", "0", "free"}, {"tie", "c", "0", "1"}, {"point", "0", "b", "a"}}
}

// wrongLines are lines that have no form.
func wrongLines() []string {
	l := []string{"", " ", "x", "Router 1 1", "routers 1 1", "-", "\xff", "\t", "takes a"}
	for _, words := range lineKinds() {
		line := strings.Join(words, " ")
		l = append(l, " "+line, line+" ", line+" 0", line+" a", strings.Replace(line, " ", "  ", 1), strings.Replace(line, " ", "\t", 1), "x"+line, strings.ToUpper(line))
		if words[0] != "point" { // whose last word may have all bytes but spaces and line feeds
			l = append(l, line+"\r", line+"\t")
		}
		for i := range words {
			before, behind := strings.Join(words[:i], " ")+" ", " "+strings.Join(words[i+1:], " ")
			l = append(l, strings.TrimSpace(before+behind), strings.Join(words[:i], " "))
			if i > 0 {
				l = append(l, before+behind, before+" "+words[i]+behind)
			}
			wrong := []string{}
			switch words[i] {
			case "0", "1":
				wrong = []string{"-", "-0", "-1", "+1", "01", "00", "1a", "a1", "a", "1-", "0x1", "1_0", "1.0", "1e3", "1234567890", "0000000001", "99999999999999999999", "-999999999", "\u0661", "\xff", "\x00", "free"}
			case "free":
				wrong = []string{"Free", "FREE", "fre", "freed", "Protected", "protect", "protectedd", "0", "1", "true", "free,protected", "b"}
			}
			for _, word := range wrong {
				l = append(l, strings.TrimSuffix(before+word+behind, " "))
			}
		}
	}
	return l
}

// P5.4: each line has its form.
func TestParseOfWrongLines(t *testing.T) {
	all := strings.SplitAfter(strings.TrimSuffix(textP, "\n"), "\n")
	for _, line := range wrongLines() {
		for at := range all {
			before, behind := strings.Join(all[:at], ""), strings.Join(all[at:], "")+"\n"
			want(t, results(line, at), results(router.Parse(before+line+"\n"+behind)), router.Router{}, at, api.ErrSyntax)
			want(t, results(line, at), results(router.Parse(before+line+"\nnonsense\n"+behind)), router.Router{}, at, api.ErrSyntax)
			if line != "" { // what stands after the last line feed is no line if it is empty
				want(t, results(line, at), results(router.Parse(before+line)), router.Router{}, at, api.ErrSyntax)
			}
		}
	}
	for cut := range len(textP) {
		s := textP[:cut]
		if !strings.HasSuffix(s, "\n") {
			want(t, s, results(router.Parse(s)), router.Router{}, strings.Count(s, "\n"), api.ErrSyntax)
		}
	}
}

// P5.4: each line stands where its kind does.
func TestParseOfMisplacedLines(t *testing.T) {
	kinds := lineKinds()
	for i := range kinds {
		for j := range kinds {
			for k := range kinds {
				s := ""
				for _, at := range []int{i, j, k} {
					s += strings.Join(kinds[at], " ") + "\n"
				}
				r, at, e := router.Parse(s)
				got := results(at, e)
				switch {
				case i != 0:
					want(t, s, got, 0, api.ErrSyntax)
				case j == 0:
					want(t, s, got, 1, api.ErrSyntax)
				case k < j:
					want(t, s, got, 2, api.ErrSyntax)
				case e == api.ErrSyntax || e != api.OK && at != 3:
					t.Errorf("%q: got %+v, %d, %d", s, r, at, e)
				}
			}
		}
	}
	lines := strings.SplitAfter(textP, "\n")
	for i := range 11 { // two lines in turn
		if strings.Fields(lines[i])[0] == strings.Fields(lines[i+1])[0] {
			continue
		}
		at := i + 1
		if i == 0 {
			at = 0
		}
		s := strings.Join(lines[:i], "") + lines[i+1] + lines[i] + strings.Join(lines[i+2:], "")
		want(t, s, results(router.Parse(s)), router.Router{}, at, api.ErrSyntax)
	}
	want(t, "a kind that comes again", results(router.Parse("router 1 2\nsource a 0\ntie c 0 1\ntie d 0 1\nsource b 0\n")), router.Router{}, 4, api.ErrSyntax)
	want(t, "the first of two", results(router.Parse("router 1 2\ntie c 0 1\nsource a 0\nrouter 1 2\n")), router.Router{}, 2, api.ErrSyntax)
}

// P5.4: the errors of a text whose lines have their forms.
func TestParseOfWrongRouters(t *testing.T) {
	for _, x := range []struct {
		s  string
		at int
		e  api.Errno
	}{
		{"", 0, api.ErrSyntax},
		{"router 0 1\n", 1, api.ErrRange},
		{"router 4 1\n", 1, api.ErrRange},
		{"router 1 0\n", 1, api.ErrRange},
		{"router 1 5\n", 1, api.ErrRange},
		{"router 999999999 999999999\n", 1, api.ErrRange},
		{"router 1 1\nsource 9 0\n", 2, api.ErrName},
		{"router 1 1\nsource \xff 0\n", 2, api.ErrName},
		{"router 1 1\nsource a\t 0\n", 2, api.ErrName},
		{"router 1 1\nsource " + strings.Repeat("a", 25) + " 0\nsource b 0\n", 3, api.ErrName},
		{"router 1 1\nsource a 0\ndestination a 0 free\n", 3, api.ErrTwice},
		{"router 1 1\nsource a 1\n", 2, api.ErrUnknown},
		{"router 1 1\nsource a 999999999\n", 2, api.ErrUnknown},
		{"router 1 1\n" + strings.Repeat("source a 0\n", 9), 10, api.ErrMany},
		{"router 1 1\n" + strings.Repeat("source a 0\n", 8), 9, api.ErrTwice},
		{"router 1 1\n" + strings.Repeat("destination a 0 free\n", 9), 10, api.ErrMany},
		{"router 1 2\n" + strings.Repeat("tie a 0 1\n", 7), 8, api.ErrMany},
		{"router 1 2\ntie a 0 1\ntie b 1 1\n", 3, api.ErrConflict},
		{textR + "point 2 air vtr\n", 9, api.ErrRange},
		{textR + "point 999999999 air vtr\n", 9, api.ErrRange},
		{textR + "point 0 free vtr\n", 9, api.ErrUnknown},
		{textR + "point 0 air -\n", 9, api.ErrUnknown},
		{textR + "point 0 air cam\n", 9, api.ErrConflict},
		{textR + "point 0 rec vtr\npoint 0 air vtr\n", 10, api.ErrOrder},
		{textR + "point 0 air t\n", 9, api.ErrOpen},
		{"router 1 2\ntie c 0 1\ntie d 1 0\npoint 0 c d\npoint 0 d c\n", 5, api.ErrCycle},
	} {
		want(t, x.s, results(router.Parse(x.s)), router.Router{}, x.at, x.e)
	}
}

// P5.4: the length of a text.
func TestParseOfLongTexts(t *testing.T) {
	long := "router 1 1\n" + strings.Repeat("source bcd 0\n", 314) // 4093 bytes
	want(t, "4093 bytes", results(router.Parse(long)), router.Router{}, 315, api.ErrMany)
	want(t, "4096 bytes", results(router.Parse(long+"xyz")), router.Router{}, 315, api.ErrSyntax)
	want(t, "4097 bytes", results(router.Parse(long+"wxyz")), router.Router{}, 0, api.ErrLong)
	want(t, "4096 bytes", results(router.Parse("router 1 1\nsource "+strings.Repeat("x", 4075)+" 0\n")), router.Router{}, 2, api.ErrName)
	want(t, "4097 bytes", results(router.Parse("router 1 1\nsource "+strings.Repeat("x", 4076)+" 0\n")), router.Router{}, 0, api.ErrLong)
	want(t, "4096 bytes", results(router.Parse(strings.Repeat("\n", 4096))), router.Router{}, 0, api.ErrSyntax)
	want(t, "4097 bytes", results(router.Parse(textR+strings.Repeat("\n", 4097))), router.Router{}, 0, api.ErrLong)
}

// P5.4: the longest text of a router fits.
func TestLongestText(t *testing.T) {
	r := full()
	for i := range r.Sources {
		r.Sources[i] = router.Source{Name: strings.Repeat("s", 23) + string(rune('0'+i))}
		r.Destinations[i] = router.Destination{Name: strings.Repeat("d", 23) + string(rune('0'+i)), Matrix: i % 2, Protected: true}
	}
	for i := range r.Ties {
		r.Ties[i] = router.Tie{Name: strings.Repeat("t", 23) + string(rune('0'+i)), To: 1}
	}
	for level := range 3 {
		for i, d := range r.Destinations {
			input := r.Sources[i].Name
			if d.Matrix == 1 {
				input = r.Ties[i/2].Name
			}
			r.Points = append(r.Points, router.Point{Level: level, Output: d.Name, Input: input})
		}
		for i := range 4 {
			r.Points = append(r.Points, router.Point{Level: level, Output: r.Ties[i].Name, Input: r.Sources[i].Name})
		}
	}
	s := must[string](t)(router.Print(r))
	want(t, s, results(router.Parse(s)), r, 0, api.OK)
	want(t, s, results(len(s)), 11+8*34+8*49+6*33+36*58)
}
