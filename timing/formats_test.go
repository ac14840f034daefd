package timing_test

import (
	"math"
	"testing"

	"genlock/api"
	"genlock/timing"
)

// P4.1
func TestCheckFormat(t *testing.T) {
	for _, f := range formats() {
		want(t, f.v, results(timing.CheckFormat(f.v)), f.e)
	}
}

// P4.1: the greatest numbers depend on other ones.
func TestCheckFormatAtItsLimits(t *testing.T) {
	for samples := 2; samples <= 5; samples++ {
		for lines := 2; lines <= 5; lines++ {
			for fields := 1; fields <= 2; fields++ {
				for i := range 7 * 7 * 7 {
					f := timing.Format{Samples: samples, Lines: lines, Fields: fields, Blank: i % 7, Sync: i / 7 % 7, Vertical: i / 49, Cycle: 1}
					e := api.ErrRange
					if f.Blank >= 1 && f.Blank < samples && f.Sync >= 1 && f.Sync <= f.Blank && f.Vertical >= 1 && f.Vertical*fields <= lines {
						e = api.OK
					}
					want(t, f, results(timing.CheckFormat(f)), e)
				}
			}
		}
	}
}

// P4.1: the examples of the chapter.
func TestExamplesOfFormats(t *testing.T) {
	f := formatF()
	for _, x := range []struct {
		tick       int
		p          timing.Position
		row, phase int
	}{
		{0, timing.Position{}, 0, 0},
		{34, timing.Position{Frame: 0, Field: 1, Line: 0, Sample: 4}, 1, 1},
		{75, timing.Position{Frame: 1, Field: 0, Line: 2, Sample: 5}, 4, 2},
		{99, timing.Position{Frame: 1, Field: 1, Line: 1, Sample: 9}, 3, 3},
		{100, timing.Position{Frame: 2}, 0, 0},
		{9999999, timing.Position{Frame: 199999, Field: 1, Line: 1, Sample: 9}, 3, 3},
		{10000000, timing.Position{Frame: 200000}, 0, 0},
	} {
		want(t, x, results(timing.At(f, x.tick)), x.p, api.OK)
		want(t, x, results(timing.Tick(f, x.p)), x.tick, api.OK)
		want(t, x, results(timing.Row(f, x.p)), x.row, api.OK)
		want(t, x, results(timing.Phase(f, x.tick)), x.phase, api.OK)
	}
}

// P4.1 and P4: ticks and positions, one after the other.
func TestPositions(t *testing.T) {
	for _, f := range rightFormats() {
		walk(f, 3, func(tick int, p timing.Position) {
			want(t, results(f, tick), results(timing.At(f, tick)), p, api.OK)
			want(t, results(f, p), results(timing.Tick(f, p)), tick, api.OK)
			row := p.Line
			if f.Fields == 2 {
				row = 2*p.Line + p.Field
			}
			want(t, results(f, p), results(timing.Row(f, p)), row, api.OK)
			want(t, results(f, tick), results(timing.Phase(f, tick)), (p.Frame*f.Fields+p.Field)%f.Cycle, api.OK)
		})
	}
}

// P4.1: the phases of many frames.
func TestPhases(t *testing.T) {
	for fields := 1; fields <= 2; fields++ {
		for cycle := 1; cycle <= 8; cycle++ {
			f := timing.Format{Samples: 3, Lines: 3, Fields: fields, Blank: 1, Sync: 1, Vertical: 1, Cycle: cycle}
			for frame := range 20 {
				want(t, results(f, frame), results(timing.Phase(f, 9*frame+5)), frame*fields%cycle, api.OK)
				want(t, results(f, frame), results(timing.Phase(f, 9*frame+6)), (frame*fields+fields-1)%cycle, api.OK)
			}
		}
	}
}

// positions are positions with the errors that they have in the format F, and in the smallest format with one field.
func positions() []struct {
	p        timing.Position
	two, one api.Errno
} {
	return []struct {
		p        timing.Position
		two, one api.Errno
	}{
		{timing.Position{}, api.OK, api.OK},
		{timing.Position{Frame: 7, Field: 1, Line: 1, Sample: 1}, api.OK, api.ErrRange},
		{timing.Position{Field: 0, Line: 1, Sample: 1}, api.OK, api.OK},
		{timing.Position{Field: 0, Line: 2, Sample: 1}, api.OK, api.ErrRange},
		{timing.Position{Field: 0, Line: 3, Sample: 1}, api.ErrRange, api.ErrRange},
		{timing.Position{Field: 1, Line: 2, Sample: 1}, api.ErrRange, api.ErrRange},
		{timing.Position{Field: 2, Line: 0, Sample: 0}, api.ErrRange, api.ErrRange},
		{timing.Position{Field: -1, Line: 0, Sample: 0}, api.ErrRange, api.ErrRange},
		{timing.Position{Line: -1, Sample: 5}, api.ErrRange, api.ErrRange},
		{timing.Position{Sample: -1}, api.ErrRange, api.ErrRange},
		{timing.Position{Sample: 2}, api.OK, api.ErrRange},
		{timing.Position{Sample: 9}, api.OK, api.ErrRange},
		{timing.Position{Sample: 10}, api.ErrRange, api.ErrRange},
		{timing.Position{Frame: 1, Sample: -1}, api.ErrRange, api.ErrRange},
		{timing.Position{Frame: 1, Line: -1}, api.ErrRange, api.ErrRange},
		{timing.Position{Frame: -1}, api.ErrRange, api.ErrRange},
		{timing.Position{Frame: math.MinInt}, api.ErrRange, api.ErrRange},
		{timing.Position{Frame: 199999, Field: 1, Line: 1, Sample: 9}, api.OK, api.ErrRange},
		{timing.Position{Frame: 200000}, api.OK, api.OK},
		{timing.Position{Frame: 200000, Sample: 1}, api.ErrLarge, api.OK},
		{timing.Position{Frame: 200000, Line: 1}, api.ErrLarge, api.OK},
		{timing.Position{Frame: 200000, Field: 1}, api.ErrLarge, api.ErrRange},
		{timing.Position{Frame: 200001}, api.ErrLarge, api.OK},
		{timing.Position{Frame: 2500000}, api.ErrLarge, api.OK},
		{timing.Position{Frame: 2500000, Sample: 1}, api.ErrLarge, api.ErrLarge},
		{timing.Position{Frame: 2500000, Line: 1}, api.ErrLarge, api.ErrLarge},
		{timing.Position{Frame: 10000001}, api.ErrLarge, api.ErrLarge},
		{timing.Position{Frame: math.MaxInt}, api.ErrLarge, api.ErrLarge},
		{timing.Position{Frame: math.MaxInt, Field: 1, Line: 1, Sample: 9}, api.ErrLarge, api.ErrRange},
		{timing.Position{Frame: 1 << 61}, api.ErrLarge, api.ErrLarge},
		{timing.Position{Frame: 1 << 62}, api.ErrLarge, api.ErrLarge},
		{timing.Position{Frame: 1 << 63 / 25}, api.ErrLarge, api.ErrLarge},
		{timing.Position{Frame: math.MaxInt, Sample: 10}, api.ErrRange, api.ErrRange},
		{timing.Position{Frame: math.MaxInt, Line: 3}, api.ErrRange, api.ErrRange},
		{timing.Position{Frame: math.MaxInt, Field: 2}, api.ErrRange, api.ErrRange},
		{timing.Position{Frame: math.MinInt, Field: math.MinInt, Line: math.MinInt, Sample: math.MinInt}, api.ErrRange, api.ErrRange},
		{timing.Position{Field: math.MaxInt, Line: math.MaxInt, Sample: math.MaxInt}, api.ErrRange, api.ErrRange},
		{timing.Position{Field: math.MinInt}, api.ErrRange, api.ErrRange},
		{timing.Position{Line: math.MaxInt}, api.ErrRange, api.ErrRange},
		{timing.Position{Sample: math.MaxInt}, api.ErrRange, api.ErrRange},
	}
}

// P4.1: the errors of positions.
func TestErrorsOfPositions(t *testing.T) {
	two, one := rightFormats()[0], rightFormats()[1]
	for _, x := range positions() {
		wantError(t, results(two, x.p), results(timing.Tick(two, x.p)), x.two, 0)
		wantError(t, results(two, x.p), results(timing.Row(two, x.p)), x.two, 0)
		wantError(t, results(one, x.p), results(timing.Tick(one, x.p)), x.one, 0)
		wantError(t, results(one, x.p), results(timing.Row(one, x.p)), x.one, 0)
		for _, f := range formats() {
			if f.e != api.OK {
				wantError(t, results(f.v, x.p), results(timing.Tick(f.v, x.p)), f.e, 0)
				wantError(t, results(f.v, x.p), results(timing.Row(f.v, x.p)), f.e, 0)
			}
		}
	}
}

// P4.1: the errors of ticks.
func TestErrorsOfTicks(t *testing.T) {
	for _, f := range formats() {
		for _, tick := range numbers(0, maxTime, api.ErrRange) {
			e := firstError(f.e, tick.e)
			wantError(t, results(f.v, tick.v), results(timing.At(f.v, tick.v)), e, timing.Position{})
			wantError(t, results(f.v, tick.v), results(timing.Phase(f.v, tick.v)), e, 0)
		}
	}
}
