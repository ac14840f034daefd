package code_test

import (
	"math"
	"slices"
	"strings"
	"testing"

	"genlock/api"
	"genlock/code"
)

// P7.4
func TestCheckCaptions(t *testing.T) {
	for _, x := range givenCaptions() {
		want(t, x.v, results(code.CheckCaptions(x.v)), x.e)
	}
}

// P7.4: two captions conflict at one frame and one column, and not if they touch.
func TestConflicts(t *testing.T) {
	a := caption(5, 10, 1, 3, "AB")
	for _, x := range []struct {
		b code.Caption
		e api.Errno
	}{
		{caption(10, 12, 1, 4, "C"), api.OK}, {caption(9, 12, 1, 4, "C"), api.ErrConflict}, {caption(4, 5, 1, 4, "C"), api.OK}, {caption(4, 6, 1, 4, "C"), api.ErrConflict}, {caption(6, 7, 1, 4, "C"), api.ErrConflict}, {caption(0, 100, 1, 4, "C"), api.ErrConflict},
		{caption(5, 10, 0, 3, "AB"), api.OK}, {caption(5, 10, 2, 3, "AB"), api.OK},
		{caption(5, 10, 1, 5, "AB"), api.OK}, {caption(5, 10, 1, 1, "AB"), api.OK}, {caption(5, 10, 1, 2, "AB"), api.ErrConflict}, {caption(5, 10, 1, 4, "AB"), api.ErrConflict}, {caption(5, 10, 1, 0, "ABCDEFGH"), api.ErrConflict}, {caption(5, 10, 1, 3, " "), api.ErrConflict},
	} {
		want(t, x.b, results(code.CheckCaptions([]code.Caption{a, x.b})), x.e)
		want(t, x.b, results(code.CheckCaptions([]code.Caption{x.b, a})), x.e)
		want(t, x.b, results(code.CheckCaptions([]code.Caption{caption(5, 10, 6, 3, "AB"), a, caption(5, 10, 7, 3, "AB"), x.b})), x.e)
	}
	d := dice(8)
	seen := map[bool]int{}
	for range 20000 {
		a, b := d.caption(), d.caption()
		e := api.OK
		if share(a, b) {
			e = api.ErrConflict
		}
		seen[share(a, b)]++
		want(t, results(a, b), results(code.CheckCaptions([]code.Caption{a, b})), e)
	}
	if seen[true] < 100 || seen[false] < 100 {
		t.Errorf("only %v", seen)
	}
}

// P7.4
func TestShown(t *testing.T) {
	blank := strings.Repeat(" ", 32)
	row := func(at int, text string) string { return blank[:at] + text + blank[at+len(text):] }
	screen := func(at int, s string) [8]string {
		l := [8]string(slices.Repeat([]string{blank}, 8))
		l[at] = s
		return l
	}
	for frame, s := range map[int]string{0: blank, 4: blank, 5: row(3, "AB"), 9: row(3, "AB"), 10: row(4, "C"), 11: row(4, "C"), 12: blank, 10000000: blank} {
		want(t, frame, results(code.Shown(exampleCaptions(), frame)), screen(1, s), api.OK)
		want(t, frame, results(code.Shown(nil, frame)), screen(0, blank), api.OK)
	}
	both := []code.Caption{caption(0, 10000000, 7, 0, "~"), caption(9999999, 10000000, 7, 31, "!"), caption(0, 9999999, 7, 1, "x y")}
	want(t, "first", results(code.Shown(both, 0)), screen(7, "~x y"+blank[4:]), api.OK)
	want(t, "last", results(code.Shown(both, 9999999)), screen(7, "~"+blank[2:]+"!"), api.OK)
	want(t, "behind", results(code.Shown(both, 10000000)), screen(7, blank), api.OK)
	full := strings.Repeat("ab", 16)
	want(t, "full", results(code.Shown([]code.Caption{caption(3, 4, 0, 0, full)}, 3)), screen(0, full), api.OK)
}

// P7.4
func TestShownErrors(t *testing.T) {
	for _, x := range givenCaptions() {
		for _, n := range numbers(0, 10000000, api.ErrRange) {
			wantError(t, results(x.v, n.v), results(code.Shown(x.v, n.v)), firstError(x.e, n.e), [8]string{})
		}
	}
}

// P7.4: any captions, at all frames.
func TestAnyScreen(t *testing.T) {
	d := dice(9)
	for range 100 {
		l := d.captions(d.below(33))
		for frame := range 50 {
			want(t, results(l, frame), results(code.Shown(l, frame)), drawn(l, frame), api.OK)
		}
	}
}

// P7.4: example 6.
func TestChanges(t *testing.T) {
	for _, x := range []struct {
		l      []code.Caption
		frames []int
	}{
		{nil, nil},
		{exampleCaptions(), []int{5, 10, 12}},
		{[]code.Caption{caption(10, 12, 1, 3, "AB"), caption(5, 10, 1, 3, "AB")}, []int{5, 12}},
		{[]code.Caption{caption(10, 12, 1, 3, "AC"), caption(5, 10, 1, 3, "AB")}, []int{5, 10, 12}},
		{[]code.Caption{caption(10, 12, 1, 3, "AB"), caption(5, 9, 1, 3, "AB")}, []int{5, 9, 10, 12}},
		{[]code.Caption{caption(5, 10, 1, 3, "  ")}, nil},
		{[]code.Caption{caption(5, 10, 1, 3, "AB "), caption(10, 12, 1, 2, " AB")}, []int{5, 12}},
		{[]code.Caption{caption(5, 10, 1, 3, "AB"), caption(10, 12, 1, 3, "A"), caption(10, 12, 1, 4, "B")}, []int{5, 12}},
		{[]code.Caption{caption(0, 10000000, 0, 0, "x")}, []int{0, 10000000}},
		{[]code.Caption{caption(0, 1, 0, 0, "x")}, []int{0, 1}},
		{[]code.Caption{caption(9999999, 10000000, 0, 0, "x"), caption(0, 1, 0, 0, " ")}, []int{9999999, 10000000}},
		{[]code.Caption{caption(7, 9, 0, 0, "x"), caption(3, 9, 1, 0, "x"), caption(7, 11, 2, 0, "x")}, []int{3, 7, 9, 11}},
		{[]code.Caption{caption(7, 9, 0, 0, "x"), caption(9, 11, 1, 0, "x")}, []int{7, 9, 11}},
	} {
		want(t, x.l, results(code.Changes(x.l)), x.frames, api.OK)
	}
	for _, x := range givenCaptions() {
		wantError(t, x.v, results(code.Changes(x.v)), x.e, []int{})
	}
}

// P7.4 and P7.6: any captions: the screen changes where it differs from the one before.
func TestAnyChanges(t *testing.T) {
	d := dice(10)
	for range 150 {
		l := d.captions(d.below(33))
		var frames []int
		for frame := range 120 {
			if drawn(l, frame) != drawn(l, frame-1) {
				frames = append(frames, frame)
			}
		}
		want(t, l, results(code.Changes(l)), frames, api.OK)
	}
}

// P7.4
func TestSafe(t *testing.T) {
	l := []code.Caption{
		caption(0, 1, 0, 15, "ab"), caption(0, 1, 1, 0, "ab"), caption(0, 1, 2, 30, "ab"), caption(0, 1, 3, 15, "ab"),
		caption(0, 1, 4, 14, "abc"), caption(0, 1, 5, 1, strings.Repeat("x", 30)), caption(0, 1, 6, 15, "abc"), caption(0, 1, 7, 4, "a"),
	}
	for _, x := range []struct {
		rows, columns int
		indices       []int
	}{
		{0, 0, nil}, {1, 0, []int{0, 7}}, {2, 0, []int{0, 1, 6, 7}}, {3, 0, []int{0, 1, 2, 5, 6, 7}},
		{0, 1, []int{1, 2}}, {0, 2, []int{1, 2, 5}}, {0, 4, []int{1, 2, 5}}, {0, 5, []int{1, 2, 5, 7}}, {0, 14, []int{1, 2, 5, 7}}, {0, 15, []int{1, 2, 4, 5, 6, 7}},
		{3, 15, []int{0, 1, 2, 4, 5, 6, 7}},
	} {
		want(t, results(x.rows, x.columns), results(code.Safe(l, x.rows, x.columns)), x.indices, api.OK)
	}
	want(t, "none", results(code.Safe(nil, 3, 15)), []int{}, api.OK)
}

// P7.4
func TestSafeErrors(t *testing.T) {
	for _, x := range givenCaptions() {
		for i, rows := range numbers(0, 3, api.ErrRange) {
			columns := numbers(0, 15, api.ErrRange)[(i+len(x.v))%6]
			wantError(t, results(x.v, rows.v, columns.v), results(code.Safe(x.v, rows.v, columns.v)), firstError(x.e, rows.e, columns.e), []int{})
		}
	}
	for _, rows := range numbers(0, 3, api.ErrRange) {
		for _, columns := range numbers(0, 15, api.ErrRange) {
			wantError(t, results(rows.v, columns.v), results(code.Safe(exampleCaptions(), rows.v, columns.v)), firstError(rows.e, columns.e), []int{})
		}
	}
	want(t, "margins", results(code.Safe(exampleCaptions(), math.MinInt, 0)), []int{}, api.ErrRange)
}

// P7.4: any captions and margins, against each row and column of their texts.
func TestAnyMargins(t *testing.T) {
	d := dice(11)
	for range 300 {
		l := d.captions(d.below(33))
		rows, columns := d.between(0, 3), d.between(0, 15)
		var indices []int
		for i, c := range l {
			within := c.Row >= rows && c.Row <= 7-rows
			for at := range len(c.Text) {
				within = within && c.Column+at >= columns && c.Column+at <= 31-columns
			}
			if !within {
				indices = append(indices, i)
			}
		}
		want(t, results(l, rows, columns), results(code.Safe(l, rows, columns)), indices, api.OK)
	}
}
