package common_test

import (
	"fmt"
	"math"
	"strings"
	"testing"

	"genlock/api"
	"genlock/common"
)

// want compares the results of a call with the expected ones; nil and empty lists are equal.
func want(t *testing.T, what any, got []any, wanted ...any) {
	t.Helper()
	if g, w := fmt.Sprintf("%+v", got), fmt.Sprintf("%+v", wanted); g != w {
		t.Errorf("%+v: got %s, want %s", what, g, w)
	}
}

// results returns the results of a call as a list.
func results(l ...any) []any { return l }

func TestErrors(t *testing.T) {
	want(t, "First", results(common.First(), common.First(api.OK, api.ErrForm, api.ErrShape)), api.OK, api.ErrForm)
	check := func(n int) api.Errno { return common.Outside(n, -1, 2) }
	want(t, "FirstOf", results(common.FirstOf(nil, check), common.FirstOf([]int{-1, 2}, check), common.FirstOf([]int{0, 3}, check), common.FirstOf([]int{-2}, check)), api.OK, api.OK, api.ErrRange, api.ErrRange)
	want(t, "ErrorIf", results(common.ErrorIf(true, api.ErrMany), common.ErrorIf(false, api.ErrMany)), api.ErrMany, api.OK)
	for s, e := range map[api.Span]api.Errno{{From: 0, To: 3}: api.OK, {From: 2, To: 3}: api.OK, {From: 2, To: 4}: api.ErrSpan, {From: 1, To: 1}: api.ErrSpan, {From: 2, To: 1}: api.ErrSpan, {From: -1, To: 1}: api.ErrSpan, {From: 3, To: 3}: api.ErrSpan, {From: math.MinInt, To: math.MaxInt}: api.ErrSpan} {
		want(t, s, results(common.SpanError(s, 3)), e)
	}
}

func TestTaps(t *testing.T) {
	for _, x := range []struct {
		taps []int
		e    api.Errno
	}{{[]int{-9, 9}, api.OK}, {[]int{0}, api.OK}, {nil, api.ErrEmpty}, {[]int{1, 10, 1}, api.ErrMany}, {[]int{9, 10}, api.ErrRange}, {[]int{-10}, api.ErrRange}} {
		want(t, x, results(common.TapsError(x.taps, 2, 9)), x.e)
	}
	digits := func(at, step int, taps ...int) int {
		return common.Tapped([]string{"1", "22", "333"}, taps, at, step, func(s string) int { return len(s) })
	}
	want(t, "taps before", results(digits(0, -1, 1, 10, 100), digits(1, -1, 1, 10, 100), digits(2, -1, 1, 10, 100, 1000)), 1, 12, 123)
	want(t, "taps behind", results(digits(0, 1, 1, 10, 100, 1000), digits(1, 1, 1, 10, 100), digits(2, 1, 1, 10, 100)), 321, 32, 3)
	want(t, "no list", results(common.Tapped(nil, []int{1, 2}, 0, 1, common.Level)), 0)
}

func TestLists(t *testing.T) {
	want(t, "Mapped", results(common.Mapped([]string{"1", "22"}, func(s string) int { return len(s) })), []int{1, 2})
	want(t, "Paired", results(common.Paired([]string{"a", "b"}, []int{3, 2}, strings.Repeat)), []string{"aaa", "bb"})
	longer := func(i int, s string) bool { return len(s) > i }
	want(t, "Indices", results(common.Indices([]string{"1", "2", "333", "", "55555"}, longer), common.Indices([]string{"", ""}, longer), common.Indices(nil, longer)), []int{0, 2, 4}, []int{}, []int{})
	want(t, "no lists", results(common.Mapped(nil, common.Level), common.Paired(nil, nil, common.Nearest)), []int{}, []int{})
}

func TestNumbers(t *testing.T) {
	want(t, "Levels", results(common.Levels([]float32{-1024, -0.0625, 0, 1.5, 1024})), []int{-16384, -1, 0, 24, 16384})
	want(t, "Samples", results(common.Samples([]int{-16384, -1, 0, 24, 16384})), []float32{-1024, -0.0625, 0, 1.5, 1024}, api.OK)
	want(t, "Samples", results(common.Samples([]int{0, 16385})), []float32(nil), api.ErrLarge)
	want(t, "Samples", results(common.Samples([]int{-16385, 0})), []float32(nil), api.ErrLarge)
	want(t, "LevelError", results(common.LevelError(-16384), common.LevelError(16384), common.LevelError(-16385), common.LevelError(16385)), api.OK, api.OK, api.ErrRange, api.ErrRange)
	for x, e := range map[api.Interval]api.Errno{{Low: -16384, High: 16384}: api.OK, {Low: 5, High: 5}: api.OK, {Low: 5, High: 4}: api.ErrOrder, {Low: -16385, High: 0}: api.ErrRange, {Low: 0, High: 16385}: api.ErrRange, {Low: 16385, High: 0}: api.ErrRange, {Low: 0, High: -16385}: api.ErrRange} {
		want(t, x, results(common.IntervalError(x)), e)
	}
	for _, x := range []struct{ n, den, nearest int }{{7, 2, 4}, {-7, 2, -3}, {8, 3, 3}, {7, 3, 2}, {-8, 3, -3}, {-7, 3, -2}, {0, 5, 0}, {6, 3, 2}, {-6, 3, -2}, {1, 2, 1}, {-1, 2, 0}} {
		want(t, x, results(common.Nearest(x.n, x.den)), x.nearest)
	}
	var powers []api.Gauss
	for n := range 6 {
		powers = append(powers, common.Power(n))
	}
	want(t, "Power", results(powers), []api.Gauss{{Re: 1}, {Im: -1}, {Re: -1}, {Im: 1}, {Re: 1}, {Im: -1}})
	want(t, "Ratio", results(common.Ratio(6, 4), common.Ratio(-6, 4), common.Ratio(6, -4), common.Ratio(-6, -4), common.Ratio(0, 5), common.Ratio(0, -5), common.Ratio(7, 7)), api.Ratio{Num: 3, Den: 2}, api.Ratio{Num: -3, Den: 2}, api.Ratio{Num: -3, Den: 2}, api.Ratio{Num: 3, Den: 2}, api.Ratio{Num: 0, Den: 1}, api.Ratio{Num: 0, Den: 1}, api.Ratio{Num: 1, Den: 1})
	want(t, "Divisor", results(common.Divisor(12, 18), common.Divisor(-12, 18), common.Divisor(12, -18), common.Divisor(0, -5), common.Divisor(7, 0), common.Divisor(0, 0)), 6, 6, 6, 5, 7, 0)
}

func TestStreams(t *testing.T) {
	want(t, "Parity", results(common.Parity(nil), common.Parity([]byte{7}), common.Parity([]byte{4, 3, 2, 1, 158, 1, 2}), common.Parity([]byte{255, 255, 9})), byte(0), byte(7), byte(153), byte(9))
	pair := func(s []byte) (string, bool) { return string(s), s[0] == s[1] }
	found := func(s string, most int) (at []int, l []string) {
		for i, x := range common.Search([]byte(s), 2, pair) {
			if at, l = append(at, i), append(l, x); len(l) == most {
				break
			}
		}
		return at, l
	}
	for _, x := range []struct {
		s    string
		most int
		at   []int
		l    []string
	}{{"", 9, nil, nil}, {"a", 9, nil, nil}, {"aa", 9, []int{0}, []string{"aa"}}, {"abbbb", 9, []int{1, 3}, []string{"bb", "bb"}}, {"aaabbb", 9, []int{0, 3}, []string{"aa", "bb"}}, {"abab", 9, nil, nil}, {"abccdee", 9, []int{2, 5}, []string{"cc", "ee"}}, {"aabbcc", 2, []int{0, 2}, []string{"aa", "bb"}}} {
		want(t, x, results(found(x.s, x.most)), x.at, x.l)
	}
	again := common.Search([]byte("aab"), 2, pair)
	for range 2 {
		n := 0
		for range again {
			n++
		}
		want(t, "Search again", results(n), 1)
	}
}

func TestNumbersOfBytes(t *testing.T) {
	for _, x := range []struct {
		n, size int
		s       []byte
	}{{0, 1, []byte{0}}, {258, 2, []byte{1, 2}}, {65535, 2, []byte{255, 255}}, {1, 4, []byte{0, 0, 0, 1}}, {10000000, 4, []byte{0, 152, 150, 128}}, {4294967295, 4, []byte{255, 255, 255, 255}}, {0, 0, nil}} {
		want(t, x, results(common.AppendNumber(nil, x.n, x.size), common.NumberOf(x.s)), x.s, x.n)
		want(t, x, results(common.AppendNumber([]byte{7, 8}, x.n, x.size)), append([]byte{7, 8}, x.s...))
	}
	want(t, "the lowest bytes", results(common.AppendNumber(nil, 66051, 2), common.AppendNumber(nil, -2, 2)), []byte{2, 3}, []byte{255, 254})
}

func TestDigits(t *testing.T) {
	for s, n := range map[string]int{"0": 0, "7": 7, "00": 0, "09": 9, "59": 59, "000000001": 1, "999999999": 999999999} {
		want(t, s, results(common.Digits(s)), n, true)
	}
	for _, s := range []string{"", "-1", "+1", " 1", "1 ", "1a", "a1", "/", ":", "0000000001", "1234567890", "\xff", "\u0661"} {
		want(t, s, results(common.Digits(s)), 0, false)
	}
}

func TestLines(t *testing.T) {
	forms := map[string]common.Form{
		"head": {Stands: common.IsFirst, Read: common.ReadNumbers},
		"line": {Stands: common.IsLater, Read: common.ReadNumbers},
	}
	var text strings.Builder
	common.PrintLine(&text, "head")
	common.PrintLine(&text, "line", "0", "-12", "999999999")
	want(t, "PrintLine", results(text.String()), "head\nline 0 -12 999999999\n")
	want(t, "ReadLines", results(common.ReadLines(text.String(), forms)), []common.Line{{First: "head"}, {First: "line", Numbers: []int{0, -12, 999999999}}}, 2, true)
	want(t, "no line", results(common.ReadLines("", forms)), []common.Line(nil), 0, true)
	for s, at := range map[string]int{"\n": 0, "head": 0, "line 1\n": 0, "head\nhead\n": 1, "head\nline 1\n\n": 2, "head\nline 1": 1, "head\nline \n": 1, "head\nother\nline 1\n": 1} {
		want(t, s, results(common.ReadLines(s, forms)), []common.Line{{First: "head"}, {First: "line", Numbers: []int{1}}}[:at], at, false)
	}
	for _, word := range []string{"", "-", "-0", "00", "01", "-01", "+1", "1a", "a1", "--1", "1-", "1234567890", "-1234567890", "0x1", "1_0", "\xff", "\u0661"} {
		want(t, word, results(common.ReadLines("head "+word+"\n", forms)), []common.Line(nil), 0, false)
	}
}

func TestParts(t *testing.T) {
	forms := map[string]common.Form{
		"place": {Stands: common.IsAny, Read: common.ReadParts(common.Word, common.Word, common.Integer)},
		"state": {Stands: common.IsAny, Read: common.ReadParts(common.Count, common.Word, common.OneOf("on", "off"), common.Count)},
		"end":   {Stands: common.IsAny, Read: common.ReadParts()},
	}
	want(t, "ReadParts", results(common.ReadLines("end\nplace a 7 -1\nstate 0 - off 999999999\nend\n", forms)), []common.Line{{First: "end"}, {First: "place", Words: []string{"a", "7"}, Numbers: []int{-1}}, {First: "state", Words: []string{"-", "off"}, Numbers: []int{0, 999999999}}, {First: "end"}}, 4, true)
	for _, s := range []string{"end 1\n", "end \n", "place\n", "place a\n", "place a b\n", "place a  1\n", "place  b 1\n", "place a b c\n", "place a b 1 2\n", "place a b 1 \n", "place   1\n", "place a b 01\n", "state -1 a on 1\n", "state -0 a on 1\n", "state 00 a on 1\n", "state 1 a on -1\n", "state 1 a On 1\n", "state 1 a  1\n", "state 1  on 1\n", "state 1 a on\n", "state 1 a on 1 1\n", "state a 1 on 1\n"} {
		want(t, s, results(common.ReadLines(s, forms)), []common.Line(nil), 0, false)
	}
}

func TestPlacesOfLines(t *testing.T) {
	forms := map[string]common.Form{
		"a": {Stands: common.IsFirst, Read: common.ReadNumbers},
		"b": {Stands: func(before string) bool { return before == "a" }, Read: common.ReadNumbers},
		"c": {Stands: common.IsLater, Read: common.ReadNumbers},
		"d": {Stands: common.IsAny, Read: common.ReadNumbers},
	}
	for s, at := range map[string]int{"a b c d": 4, "d d c c": 4, "d c d": 3, "b": 0, "c": 0, "a a": 1, "d a": 1, "a b b": 2, "a c b": 2, "d b": 1} {
		text := strings.ReplaceAll(s, " ", "\n") + "\n"
		_, lines, ok := common.ReadLines(text, forms)
		want(t, s, results(lines, ok), at, at == strings.Count(text, "\n"))
	}
}
