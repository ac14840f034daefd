package code_test

import (
	"strings"
	"testing"

	"genlock/api"
	"genlock/code"
)

// printed are stamps with their texts.
var printed = map[string]code.Stamp{
	"01:02:03;04 at 30 258":   example,
	"01:02:03;04 at 30 5":     {Rate: drop30, Label: label(1, 2, 3, 4), User: 5},
	"00:00:00:00 at 24 0":     {Rate: at24},
	"23:59:59:24 at 25 65535": {Rate: at25, Label: label(23, 59, 59, 24), User: 65535},
	"10:20:30:29 at 30 10000": {Rate: at30, Label: label(10, 20, 30, 29), User: 10000},
	"00:01:00:00 at 30 9":     {Rate: at30, Label: label(0, 1, 0, 0), User: 9},
	"00:01:00;02 at 30 90":    {Rate: drop30, Label: label(0, 1, 0, 2), User: 90},
	"00:00:00;00 at 30 100":   {Rate: drop30, User: 100},
}

// P7.5: example 8.
func TestPrint(t *testing.T) {
	for s, stamp := range printed {
		want(t, s, results(code.Print(stamp)), s, api.OK)
	}
	for _, x := range givenStamps() {
		wantError(t, x.v, results(code.Print(x.v)), x.e, "")
	}
}

// P7.5
func TestParse(t *testing.T) {
	for s, stamp := range printed {
		want(t, s, results(code.Parse(s)), stamp, api.OK)
	}
}

// P7.5: texts that do not have the form.
func TestParseOfWrongTexts(t *testing.T) {
	words := []string{"01:02:03:04", "at", "30", "258"}
	l := []string{"", " ", "   ", "x", "\n", "at", "01:02:03:04", "01:02:03:04 at", "01:02:03:04 at 30", "01:02:03:04 at 30 ", "01:02:03:04  30 258", "01:02:03:04 30 258", "01:02:03:04at 30 258", "01:02:03:04 at30 258", "01:02:03:04 at 30258", " 01:02:03:04 at 30 258", "01:02:03:04 at 30 258 ", "01:02:03:04 at 30 258\n", "01:02:03:04 at 30 258 1", "01:02:03:04 at 30 258x", "01:02:03:04  at 30 258", "01:02:03:04 at  30 258", "01:02:03:04 at 30  258", "01:02:03:04\tat 30 258", "01:02:03:04 at 30\t258", "01:02:03:04 at 30\n258"}
	with := func(at int, wrong ...string) {
		for _, word := range wrong {
			changed := append(append(append([]string{}, words[:at]...), word), words[at+1:]...)
			l = append(l, strings.Join(changed, " "))
		}
	}
	with(0, "", ":::", "::::", "01:02:03", "01:02:03:", "01:02:03:04:", "01:02:03:04:05", "1:02:03:04", "01:2:03:04", "01:02:3:04", "01:02:03:4", "1:2:3:4", "001:02:03:04", "01:002:03:04", "01:02:003:04", "01:02:03:004", "01:02:03:4 ", "1:02:03:004", "01:02:03.04", "01;02:03:04", "01:02;03:04", "01;02;03;04", "01:02:03,04", "01.02.03.04", "01:02:03\x00", "01:02:03:04;", "01:02:03::04", "01:02:03:;04", "-1:02:03:04", "01:-2:03:04", "01:02:03:-4", "+1:02:03:04", "0a:02:03:04", "01:0x:03:04", "01:02:0 :04", "01:02: 3:04", "01:02:03:0\xff", "01:02:03:\u0664", "\u0661:02:03:04", "/0:02:03:04", "01::2:03:04", "01:02:03:0:", "01020304", "01 02 03 04", "01:02:0304", "0102:03:04:", "01:02:03;;04", "01:02:03;4")
	with(1, "", "At", "AT", "a", "att", "in", "@", "at\x00", "30")
	with(2, "", "030", "0030", "00", "-30", "+30", "30:", "30.0", "3O", "a", "0x1e", "123456", "000030", "99999999999999999999", "\xff", "\u0663", "3e1", "-0", "-")
	with(3, "", "0258", "00", "00000", "-1", "-0", "+1", "100000", "0000258", "258.", "2_5", "a", "0x5", "99999999999999999999", "18446744073709551617", "\xff", "\u0665", "1e2", "-")
	for _, s := range l {
		want(t, s, results(code.Parse(s)), code.Stamp{}, api.ErrSyntax)
		dropped := strings.Replace(s, "03:04", "03;04", 1)
		want(t, dropped, results(code.Parse(dropped)), code.Stamp{}, api.ErrSyntax)
	}
	for s := range printed {
		user := strings.LastIndex(s, " ") + 1
		for cut := range len(s) {
			_, e := code.Parse(s[:cut])
			want(t, s[:cut], results(e == api.OK, e == api.ErrSyntax), cut > user, cut <= user)
			want(t, s[cut+1:], results(code.Parse(s[cut+1:])), code.Stamp{}, api.ErrSyntax)
		}
	}
}

// P7.5: texts that have the form, but whose stamps have an error: first that of the rate.
func TestParseOfWrongStamps(t *testing.T) {
	for s, e := range map[string]api.Errno{
		"01:02:03;04 at 24 0": api.ErrConflict, "01:02:03;04 at 25 0": api.ErrConflict, "99:99:99;99 at 24 99999": api.ErrConflict, "00:01:00;00 at 25 99999": api.ErrConflict,
		"01:02:03:04 at 26 0": api.ErrKind, "01:02:03;04 at 26 0": api.ErrKind, "01:02:03:04 at 0 0": api.ErrKind, "01:02:03;04 at 0 0": api.ErrKind, "01:02:03:04 at 2 0": api.ErrKind, "01:02:03:04 at 300 0": api.ErrKind, "01:02:03:04 at 158 0": api.ErrKind, "99:99:99:99 at 99999 99999": api.ErrKind, "01:02:03:04 at 60 0": api.ErrKind,
		"24:00:00:00 at 24 0": api.ErrRange, "00:60:00:00 at 24 0": api.ErrRange, "00:00:60:00 at 24 0": api.ErrRange, "00:00:00:24 at 24 0": api.ErrRange, "00:00:00:25 at 25 0": api.ErrRange, "00:00:00:30 at 30 0": api.ErrRange, "00:01:00;30 at 30 0": api.ErrRange, "24:01:00;00 at 30 0": api.ErrRange,
		"00:01:00;00 at 30 0": api.ErrNone, "00:01:00;01 at 30 65536": api.ErrNone, "23:59:00;01 at 30 99999": api.ErrNone,
		"00:01:00;02 at 30 65536": api.ErrRange, "00:01:00:00 at 30 99999": api.ErrRange,
		"00:00:00:24 at 25 0": api.OK, "00:00:00;29 at 30 0": api.OK, "00:10:00;00 at 30 65535": api.OK,
	} {
		wantError(t, s, results(code.Parse(s)), e, code.Stamp{})
	}
}

// P7.5: the length of a text is asked first.
func TestParseOfLongTexts(t *testing.T) {
	for _, s := range []string{strings.Repeat("0", 4096), "01:02:03:04 at 30 " + strings.Repeat("1", 4096-18), "01:02:03:04 at 30 258" + strings.Repeat(" ", 4096-21), "01:02:03:04 at " + strings.Repeat("0", 4096-17) + " 1", strings.Repeat(" ", 4096)} {
		want(t, "4096 bytes", results(len(s)), 4096)
		want(t, s, results(code.Parse(s)), code.Stamp{}, api.ErrSyntax)
		want(t, "4097 bytes", results(code.Parse(s+"1")), code.Stamp{}, api.ErrLong)
	}
}

// P7.5: any stamp, and its text with one byte that is another one.
func TestParseOfAnyTexts(t *testing.T) {
	d := dice(12)
	seen := map[api.Errno]int{}
	for range 20000 {
		stamp := d.stamp()
		s := must[string](t)(code.Print(stamp))
		want(t, s, results(code.Parse(s)), stamp, api.OK)
		changed := []byte(s)
		changed[d.below(len(s))] = ":; at0123456789\n"[d.below(16)]
		got, e := code.Parse(string(changed))
		seen[e]++
		switch {
		case e == api.OK:
			want(t, string(changed), results(code.Print(got)), string(changed), api.OK)
		case got != code.Stamp{}:
			t.Errorf("%q: got %+v beside the error %d", changed, got, e)
		}
	}
	for _, e := range []api.Errno{api.OK, api.ErrSyntax, api.ErrRange, api.ErrKind, api.ErrConflict} {
		if seen[e] < 20 {
			t.Errorf("only %d with the error %d", seen[e], e)
		}
	}
}
