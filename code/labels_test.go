package code_test

import (
	"math"
	"testing"

	"genlock/api"
	"genlock/code"
)

// P7.1
func TestCheckRate(t *testing.T) {
	for _, x := range givenRates() {
		want(t, x.v, results(code.CheckRate(x.v)), x.e)
	}
}

// P7.1: example 1, and a second has as many frames as the rate.
func TestDay(t *testing.T) {
	days := map[code.Rate]int{at24: 2073600, at25: 2160000, at30: 2592000, drop30: 2589408}
	for _, x := range givenRates() {
		want(t, x.v, results(code.Day(x.v)), days[x.v], x.e)
	}
}

// P7.1
func TestCheckLabel(t *testing.T) {
	for _, x := range givenPlaces() {
		want(t, x.v, results(code.CheckLabel(x.v.Rate, x.v.Label)), x.e)
	}
	for minute := range 60 {
		for second := range 60 {
			for frame := range 30 {
				e := api.OK
				if minute%10 != 0 && second == 0 && frame < 2 {
					e = api.ErrNone
				}
				l := label(7, minute, second, frame)
				if code.CheckLabel(drop30, l) != e || code.CheckLabel(at30, l) != api.OK {
					t.Errorf("%+v: got %d, want %d", l, code.CheckLabel(drop30, l), e)
				}
			}
		}
	}
}

// P7.1: the examples 1 and 2.
func TestLabelExamples(t *testing.T) {
	for _, x := range []struct {
		r     code.Rate
		l     code.Label
		frame int
	}{
		{drop30, label(0, 0, 59, 29), 1799},
		{drop30, label(0, 1, 0, 2), 1800},
		{drop30, label(0, 1, 59, 29), 3597},
		{drop30, label(0, 2, 0, 2), 3598},
		{drop30, label(0, 9, 59, 29), 17981},
		{drop30, label(0, 10, 0, 0), 17982},
		{drop30, label(0, 10, 0, 1), 17983},
		{drop30, label(0, 11, 0, 2), 19782},
		{drop30, label(1, 0, 0, 0), 107892},
		{drop30, label(23, 59, 59, 29), 2589407},
		{at30, label(0, 1, 0, 0), 1800},
		{at30, label(23, 59, 59, 29), 2591999},
		{at25, label(1, 2, 3, 4), 93079},
		{at24, label(1, 2, 3, 4), 89356},
		{at24, label(23, 59, 59, 23), 2073599},
	} {
		want(t, x, results(code.Frame(x.r, x.l)), x.frame, api.OK)
		want(t, x, results(code.LabelOf(x.r, x.frame)), x.l, api.OK)
	}
	want(t, "a label later", results(code.Added(at25, label(23, 59, 59, 24), 1)), label(0, 0, 0, 0), api.OK)
	want(t, "a label earlier", results(code.Added(drop30, label(0, 0, 0, 0), -1)), label(23, 59, 59, 29), api.OK)
	want(t, "a label later", results(code.Added(drop30, label(0, 0, 59, 29), 1)), label(0, 1, 0, 2), api.OK)
	want(t, "a label earlier", results(code.Added(drop30, label(0, 1, 0, 2), -1)), label(0, 0, 59, 29), api.OK)
}

// P7.1
func TestFrameErrors(t *testing.T) {
	for _, x := range givenPlaces() {
		wantError(t, x.v, results(code.Frame(x.v.Rate, x.v.Label)), x.e, 0)
	}
}

// P7.1
func TestLabelOfErrors(t *testing.T) {
	for _, r := range givenRates() {
		day, _ := code.Day(r.v)
		for _, n := range append(numbers(0, max(day-1, 0), api.ErrRange), given[int]{day + 1, api.ErrRange}) {
			wantError(t, results(r.v, n.v), results(code.LabelOf(r.v, n.v)), firstError(r.e, n.e), label(0, 0, 0, 0))
		}
	}
	want(t, "a frame of a day without dropped numbers", results(code.LabelOf(drop30, 2589408)), label(0, 0, 0, 0), api.ErrRange)
}

// P7.1
func TestAddedErrors(t *testing.T) {
	for _, x := range givenPlaces() {
		for _, n := range numbers(-10000000, 10000000, api.ErrRange) {
			wantError(t, results(x.v, n.v), results(code.Added(x.v.Rate, x.v.Label, n.v)), firstError(x.e, n.e), label(0, 0, 0, 0))
		}
	}
}

// next returns the label that follows another one.
func next(r code.Rate, l code.Label) code.Label {
	l.Frames++
	if l.Frames == r.Frames {
		l.Frames = 0
		l.Seconds++
	}
	if l.Seconds == 60 {
		l.Seconds = 0
		l.Minutes++
	}
	if l.Minutes == 60 {
		l.Minutes = 0
		l.Hours++
	}
	if l.Hours == 24 {
		l.Hours = 0
	}
	if r.Drop && l.Minutes%10 > 0 && l.Seconds == 0 && l.Frames < 2 {
		return next(r, l)
	}
	return l
}

// day returns all labels of a rate that are not dropped, in their order.
func day(r code.Rate) []code.Label {
	all := []code.Label{{}}
	for l := next(r, all[0]); l != all[0]; l = next(r, l) {
		all = append(all, l)
	}
	return all
}

// isTold reports whether a label of a day is one of those at which all functions are tried.
func isTold(l code.Label, frame int) bool {
	return frame%101 == 0 || l.Seconds%59 == 0 && (l.Frames < 4 || l.Frames > 22) && (l.Hours%23 == 0 || l.Minutes%10 < 2)
}

// P7.1 and P7.6: frames and labels of whole days, and labels that are later or earlier, against all labels in their order.
func TestWholeDays(t *testing.T) {
	d := dice(1)
	for _, r := range rates() {
		all := day(r)
		want(t, r, results(code.Day(r)), len(all), api.OK)
		for frame, l := range all {
			if !isTold(l, frame) {
				continue
			}
			if n, e := code.Frame(r, l); n != frame || e != api.OK {
				t.Errorf("%+v, %+v: got %d, %d, want %d", r, l, n, e, frame)
			}
			if x, e := code.LabelOf(r, frame); x != l || e != api.OK {
				t.Errorf("%+v, %d: got %+v, %d, want %+v", r, frame, x, e, l)
			}
			n := d.between(-10000000, 10000000)
			if d.below(2) == 0 {
				n = d.between(-3, 3)
			}
			at := (frame + n + 10*len(all)) % len(all)
			if x, e := code.Added(r, l, n); x != all[at] || e != api.OK {
				t.Errorf("%+v, %+v, %d: got %+v, %d, want %+v", r, l, n, x, e, all[at])
			}
		}
	}
}

// P7.1: whole days later and earlier, a label is the same.
func TestDaysLater(t *testing.T) {
	d := dice(2)
	for _, r := range rates() {
		whole := must[int](t)(code.Day(r))
		for range 200 {
			l := d.label(r)
			for days := -10000000 / whole; days <= 10000000/whole; days++ {
				want(t, results(r, l, days), results(code.Added(r, l, days*whole)), l, api.OK)
			}
			want(t, results(r, l), results(code.Added(r, l, math.MaxInt)), label(0, 0, 0, 0), api.ErrRange)
		}
	}
}
