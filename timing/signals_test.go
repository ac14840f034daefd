package timing_test

import (
	"slices"
	"testing"

	"genlock/api"
	"genlock/timing"
)

// P4.2: the examples of the chapter.
func TestExamplesOfSignals(t *testing.T) {
	f := formatF()
	want(t, "the line 0", results(timing.Blanked(f, 34)), true, api.OK)
	want(t, "the line 1", results(timing.Blanked(f, 45)), false, api.OK)
	want(t, "the sample 2", results(timing.Blanked(f, 42)), true, api.OK)
	want(t, "the sample 3", results(timing.Blanked(f, 43)), false, api.OK)
	want(t, "the sample 0", results(timing.InSync(f, 40)), true, api.OK)
	want(t, "the sample 1", results(timing.InSync(f, 41)), false, api.OK)
	want(t, "from 0 on", results(timing.Vertical(f, 0)), api.Span{From: 0, To: 10}, api.OK)
	want(t, "from 1 on", results(timing.Vertical(f, 1)), api.Span{From: 30, To: 40}, api.OK)
	want(t, "from 30 on", results(timing.Vertical(f, 30)), api.Span{From: 30, To: 40}, api.OK)
	want(t, "from 31 on", results(timing.Vertical(f, 31)), api.Span{From: 50, To: 60}, api.OK)
	want(t, "signal", results(timing.Signal(f, 39, 5)), []float32{0, -64, 0, 0, 16}, api.OK)
}

// wave returns the signal at a position.
func wave(f timing.Format, p timing.Position) float32 {
	if p.Sample < f.Sync {
		return -64
	}
	if p.Sample < f.Blank || p.Line < f.Vertical {
		return 0
	}
	return 16
}

// P4.2: all ticks of some frames.
func TestSignals(t *testing.T) {
	for _, f := range rightFormats() {
		var signal []float32
		walk(f, 3, func(tick int, p timing.Position) {
			x := wave(f, p)
			want(t, results(f, tick), results(timing.Blanked(f, tick)), p.Sample < f.Blank || p.Line < f.Vertical, api.OK)
			want(t, results(f, tick), results(timing.InSync(f, tick)), p.Sample < f.Sync, api.OK)
			want(t, results(f, tick), results(timing.Signal(f, tick, 1)), []float32{x}, api.OK)
			signal = append(signal, x)
		})
		for from := range min(len(signal), 40) {
			n := min(4096, len(signal)-from)
			want(t, results(f, from, n), results(timing.Signal(f, from, n)), signal[from:from+n], api.OK)
			want(t, results(f, from), results(timing.Signal(f, from, 0)), []float32{}, api.OK)
		}
	}
}

// P4.2: the first vertical interval from each tick on.
func TestVertical(t *testing.T) {
	for _, f := range rightFormats() {
		var all []api.Span
		walk(f, 4, func(tick int, p timing.Position) {
			if p.Line == 0 && p.Sample == 0 {
				all = append(all, api.Span{From: tick, To: tick + f.Vertical*f.Samples})
			}
		})
		walk(f, 3, func(tick int, p timing.Position) {
			next := slices.IndexFunc(all, func(s api.Span) bool { return s.From >= tick })
			want(t, results(f, tick), results(timing.Vertical(f, tick)), all[next], api.OK)
		})
	}
}

// P4.2: the last vertical intervals.
func TestVerticalAtTheEnd(t *testing.T) {
	for _, x := range []struct {
		f    timing.Format
		tick int
		s    api.Span
		e    api.Errno
	}{
		{formatF(), 9999980, api.Span{From: 9999980, To: 9999990}, api.OK},
		{formatF(), 9999981, api.Span{}, api.ErrNone}, // the next one ends at 10000010
		{formatF(), 10000000, api.Span{}, api.ErrNone},
		{timing.Format{Samples: 10, Lines: 2, Fields: 2, Blank: 1, Sync: 1, Vertical: 1, Cycle: 1}, 9999990, api.Span{From: 9999990, To: 10000000}, api.OK},
		{timing.Format{Samples: 10, Lines: 2, Fields: 2, Blank: 1, Sync: 1, Vertical: 1, Cycle: 1}, 9999991, api.Span{}, api.ErrNone},
		{timing.Format{Samples: 11, Lines: 2, Fields: 2, Blank: 1, Sync: 1, Vertical: 1, Cycle: 1}, 9999979, api.Span{From: 9999979, To: 9999990}, api.OK},
		{timing.Format{Samples: 11, Lines: 2, Fields: 2, Blank: 1, Sync: 1, Vertical: 1, Cycle: 1}, 9999980, api.Span{}, api.ErrNone}, // it would end at 10000001
		{timing.Format{Samples: 11, Lines: 2, Fields: 2, Blank: 1, Sync: 1, Vertical: 1, Cycle: 1}, 9999990, api.Span{}, api.ErrNone},
		{timing.Format{Samples: 2000, Lines: 2000, Fields: 1, Blank: 1, Sync: 1, Vertical: 1000, Cycle: 1}, 8000000, api.Span{From: 8000000, To: 10000000}, api.OK},
		{timing.Format{Samples: 2000, Lines: 2000, Fields: 1, Blank: 1, Sync: 1, Vertical: 1001, Cycle: 1}, 8000000, api.Span{}, api.ErrNone},
		{timing.Format{Samples: 2000, Lines: 2000, Fields: 1, Blank: 1, Sync: 1, Vertical: 1001, Cycle: 1}, 4000001, api.Span{}, api.ErrNone},
		{timing.Format{Samples: 2000, Lines: 2000, Fields: 2, Blank: 1, Sync: 1, Vertical: 1000, Cycle: 1}, 6000001, api.Span{From: 8000000, To: 10000000}, api.OK},
	} {
		want(t, x, results(timing.Vertical(x.f, x.tick)), x.s, x.e)
	}
}

// P4.2: the last ticks of a signal.
func TestSignalAtTheEnd(t *testing.T) {
	f := formatF() // the last tick begins a frame
	want(t, "the last tick", results(timing.Signal(f, maxTime, 1)), []float32{-64}, api.OK)
	want(t, "the last two ticks", results(timing.Signal(f, maxTime-1, 2)), []float32{16, -64}, api.OK)
	want(t, "no tick", results(timing.Signal(f, maxTime, 0)), []float32{}, api.OK)
	want(t, "one more", results(timing.Signal(f, maxTime, 2)), []float32(nil), api.ErrLarge)
	want(t, "one more", results(timing.Signal(f, maxTime-4094, 4096)), []float32(nil), api.ErrLarge)
	l, e := timing.Signal(f, maxTime-4095, 4096)
	want(t, "as many as there may be", results(len(l), l[4095], e), 4096, -64, api.OK)
}

// P4.2: the errors of the arguments, from left to right.
func TestErrorsOfSignals(t *testing.T) {
	for _, f := range formats() {
		for _, tick := range numbers(0, maxTime, api.ErrRange) {
			e := firstError(f.e, tick.e)
			wantError(t, results(f.v, tick.v), results(timing.Blanked(f.v, tick.v)), e, false)
			wantError(t, results(f.v, tick.v), results(timing.InSync(f.v, tick.v)), e, false)
			if e != api.OK {
				wantError(t, results(f.v, tick.v), results(timing.Vertical(f.v, tick.v)), e, api.Span{})
			}
			for _, n := range numbers(0, 4096, api.ErrRange) {
				e := firstError(f.e, tick.e, n.e)
				if e == api.OK && tick.v+n.v > maxTime+1 {
					e = api.ErrLarge
				}
				wantError(t, results(f.v, tick.v, n.v), results(timing.Signal(f.v, tick.v, n.v)), e, []float32(nil))
			}
		}
	}
}
