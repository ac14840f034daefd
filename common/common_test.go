package common_test

import (
	"fmt"
	"strings"
	"testing"

	"genlock/api"
	"genlock/common"
)

// want compares the results of a call with the expected ones; nil and empty lists are equal.
func want(t *testing.T, what any, got []any, wanted ...any) {
	t.Helper()
	if g, w := fmt.Sprintf("%+v", got), fmt.Sprintf("%+v", wanted); g != w {
		t.Errorf("%+v: got %s, want %s", what, g, w)
	}
}

// results returns the results of a call as a list.
func results(l ...any) []any { return l }

func TestErrors(t *testing.T) {
	want(t, "First", results(common.First(), common.First(api.OK, api.ErrForm, api.ErrShape)), api.OK, api.ErrForm)
	check := func(n int) api.Errno { return common.Outside(n, -1, 2) }
	want(t, "FirstOf", results(common.FirstOf(nil, check), common.FirstOf([]int{-1, 2}, check), common.FirstOf([]int{0, 3}, check), common.FirstOf([]int{-2}, check)), api.OK, api.OK, api.ErrRange, api.ErrRange)
	want(t, "ErrorIf", results(common.ErrorIf(true, api.ErrMany), common.ErrorIf(false, api.ErrMany)), api.ErrMany, api.OK)
}

func TestNumbers(t *testing.T) {
	want(t, "Levels", results(common.Levels([]float32{-1024, -0.0625, 0, 1.5, 1024})), []int{-16384, -1, 0, 24, 16384})
	want(t, "Samples", results(common.Samples([]int{-16384, -1, 0, 24, 16384})), []float32{-1024, -0.0625, 0, 1.5, 1024}, api.OK)
	want(t, "Samples", results(common.Samples([]int{0, 16385})), []float32(nil), api.ErrLarge)
	want(t, "Samples", results(common.Samples([]int{-16385, 0})), []float32(nil), api.ErrLarge)
	for _, x := range []struct{ n, den, nearest int }{{7, 2, 4}, {-7, 2, -3}, {8, 3, 3}, {7, 3, 2}, {-8, 3, -3}, {-7, 3, -2}, {0, 5, 0}, {6, 3, 2}, {-6, 3, -2}, {1, 2, 1}, {-1, 2, 0}} {
		want(t, x, results(common.Nearest(x.n, x.den)), x.nearest)
	}
	want(t, "Divisor", results(common.Divisor(12, 18), common.Divisor(-12, 18), common.Divisor(12, -18), common.Divisor(0, -5), common.Divisor(7, 0), common.Divisor(0, 0)), 6, 6, 6, 5, 7, 0)
}

func TestLines(t *testing.T) {
	forms := map[string]common.Form{
		"head": {Stands: common.IsFirst, Read: common.ReadNumbers},
		"line": {Stands: common.IsLater, Read: common.ReadNumbers},
	}
	var text strings.Builder
	common.PrintLine(&text, "head")
	common.PrintLine(&text, "line", "0", "-12", "999999999")
	want(t, "PrintLine", results(text.String()), "head\nline 0 -12 999999999\n")
	want(t, "ReadLines", results(common.ReadLines(text.String(), forms)), []common.Line{{}, {Numbers: []int{0, -12, 999999999}}}, 2, true)
	for s, at := range map[string]int{"": 0, "\n": 0, "head": 0, "line 1\n": 0, "head\nhead\n": 1, "head\nline 1\n\n": 2, "head\nline 1": 1, "head\nline \n": 1, "head\nother\n": 1} {
		want(t, s, results(common.ReadLines(s, forms)), []common.Line(nil), at, false)
	}
	for _, word := range []string{"", "-", "-0", "00", "01", "-01", "+1", "1a", "a1", "--1", "1-", "1234567890", "-1234567890", "0x1", "1_0", "\xff", "\u0661"} {
		want(t, word, results(common.ReadLines("head "+word+"\n", forms)), []common.Line(nil), 0, false)
	}
}
