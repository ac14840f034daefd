package composite_test

import (
	"math"
	"testing"

	"genlock/api"
	"genlock/composite"
)

// P3.3
func TestBurst(t *testing.T) {
	want(t, "a burst", results(composite.Burst([4]float32{0, 5, 0, -5})), api.Gauss{Re: 0, Im: 160}, api.OK)
	want(t, "zeros", results(composite.Burst([4]float32{minus0, 0, 0, minus0})), api.Gauss{}, api.OK)
	want(t, "sixteenths", results(composite.Burst([4]float32{0.0625, 0.25, 0.5, 1})), api.Gauss{Re: -7, Im: -12}, api.OK)
	want(t, "the greatest", results(composite.Burst([4]float32{1024, -1024, -1024, 1024})), api.Gauss{Re: 32768, Im: -32768}, api.OK)
}

// P3.3
func TestLocked(t *testing.T) {
	for _, x := range []struct {
		burst [4]float32
		late  int
		peak  int
	}{
		{[4]float32{0, 5, 0, -5}, 1, 160},
		{[4]float32{5, 0, -5, 0}, 0, 160},
		{[4]float32{-5, 0, 5, 0}, 2, 160},
		{[4]float32{0, -5, 0, 5}, 3, 160},
		{[4]float32{7, 6, 0, 0}, 0, 112},
		{[4]float32{6, 7, 0, 0}, 1, 112},
		{[4]float32{6, -7, 0, 0}, 3, 112},
		{[4]float32{-6, -7, 0, 0}, 3, 112},
		{[4]float32{-7, -6, 0, 0}, 2, 112},
		{[4]float32{0, 6, 7, 0}, 2, 112},
		{[4]float32{6, 6, 0, 0}, 0, 96},
		{[4]float32{6, -6, 0, 0}, 0, 96},
		{[4]float32{-6, 6, 0, 0}, 1, 96},
		{[4]float32{-6, -6, 0, 0}, 2, 96},
		{[4]float32{0, 0, 0, 0.0625}, 3, 1},
		{[4]float32{3, 1023, 2, 1023}, 0, 16},
		{[4]float32{-1024, 1024, 1024, -1024}, 1, 32768},
	} {
		want(t, x, results(composite.Locked(x.burst, 1)), x.late, api.OK)
		want(t, x, results(composite.Locked(x.burst, x.peak)), x.late, api.OK)
		want(t, x, results(composite.Locked(x.burst, x.peak+1)), 0, api.ErrNone)
		want(t, x, results(composite.Locked(x.burst, 1<<20)), 0, api.ErrNone)
	}
	want(t, "zeros", results(composite.Locked([4]float32{}, 1)), 0, api.ErrNone)
	want(t, "no difference", results(composite.Locked([4]float32{3, -4, 3, -4}, 1)), 0, api.ErrNone)
}

// P3.3
func TestAligned(t *testing.T) {
	eight := []float32{1, 2, 3, 4, 5, 6, 7, 8}
	for late, aligned := range [][]float32{eight, {2, 3, 4, 5}, {3, 4, 5, 6}, {4, 5, 6, 7}} {
		want(t, late, results(composite.Aligned(eight, late)), aligned, api.OK)
		want(t, late, results(composite.Aligned(nil, late)), []float32(nil), api.OK)
		want(t, late, results(composite.Aligned(eight[:4], late)), eight[:4-min(late, 1)*4], api.OK)
		l, e := composite.Aligned(make([]float32, 256), late)
		want(t, late, results(len(l), e), 256-min(late, 1)*4, api.OK)
	}
}

// P3.3
func TestClamped(t *testing.T) {
	want(t, "a signal", results(composite.Clamped([]float32{3, 5, 7, 9}, api.Span{To: 2}, 1)), []float32{0, 2, 4, 6}, api.OK)
	for _, x := range []struct {
		signal  []int
		porch   api.Span
		level   int
		clamped []int
	}{
		{[]int{0, 100, 200, 7}, api.Span{From: 3, To: 4}, 0, []int{-7, 93, 193, 0}},
		{[]int{0, 100, 200, 7}, api.Span{From: 1, To: 3}, -1, []int{-151, -51, 49, -144}},
		{[]int{0, 1, 0, 0}, api.Span{To: 2}, 0, []int{-1, 0, -1, -1}},                           // the mean is a half: 1
		{[]int{0, -1, 0, 0}, api.Span{To: 2}, 0, []int{0, -1, 0, 0}},                            // the mean is minus a half: 0
		{[]int{0, -3, 0, 0}, api.Span{To: 2}, 0, []int{1, -2, 1, 1}},                            // -3/2: -1
		{[]int{1, 1, 0, 0}, api.Span{To: 3}, 0, []int{0, 0, -1, -1}},                            // 2/3: 1
		{[]int{1, 0, 0, 0}, api.Span{To: 3}, 0, []int{1, 0, 0, 0}},                              // 1/3: 0
		{[]int{-1, -1, 0, 0}, api.Span{To: 3}, 5, []int{5, 5, 6, 6}},                            // -2/3: -1
		{[]int{3, 4, 0, 0, 0, 0, 0, 1}, api.Span{To: 8}, 0, []int{2, 3, -1, -1, -1, -1, -1, 0}}, // 1
		{[]int{16384, -16384, 16384, 16384}, api.Span{To: 2}, 0, []int{16384, -16384, 16384, 16384}},
		{[]int{-16384, -16384, -16384, 16384}, api.Span{To: 1}, -16384, []int{-16384, -16384, -16384, 16384}},
		{[]int{-16384, -16384, -16384, -16384}, api.Span{To: 4}, 16384, []int{16384, 16384, 16384, 16384}},
	} {
		want(t, x, results(composite.Clamped(samples(x.signal...), x.porch, float32(x.level)/16)), samples(x.clamped...), api.OK)
	}
	want(t, "zeros", results(composite.Clamped([]float32{minus0, 0, minus0, 0}, api.Span{To: 4}, minus0)), make([]float32, 4), api.OK)
	for _, x := range []struct {
		signal []int
		level  int
		e      api.Errno
	}{
		{[]int{0, 0, 0, 16384}, 0, api.OK},
		{[]int{0, 0, 0, 16384}, 1, api.ErrLarge},
		{[]int{0, 16384, 0, 0}, 1, api.ErrLarge},
		{[]int{1, 0, 0, -16384}, 1, api.OK},
		{[]int{1, 0, 0, -16384}, 0, api.ErrLarge},
		{[]int{-16384, 1, 0, 0}, 0, api.ErrLarge},
	} {
		wantError(t, x, results(composite.Clamped(samples(x.signal...), api.Span{To: 1}, float32(x.level)/16)), x.e, []float32(nil))
	}
}

// P3.3: the errors of the arguments, from left to right.
func TestErrorsOfLocking(t *testing.T) {
	for _, b := range bursts() {
		wantError(t, b.v, results(composite.Burst(b.v)), b.e, api.Gauss{})
		for _, least := range numbers(1, 1<<20) {
			e := firstError(b.e, least.e)
			if e == api.OK && least.v > 1 {
				e = api.ErrNone
			}
			wantError(t, results(b.v, least.v), results(composite.Locked(b.v, least.v)), e, 0)
		}
	}
	spans := []api.Span{{To: 1}, {To: 4}, {From: 3, To: 4}, {}, {From: 2, To: 2}, {From: 4, To: 4}, {From: 3, To: 2}, {From: -1, To: 2}, {From: 4, To: 5}, {From: 3, To: 5}, {To: 256}, {To: 257}, {From: math.MinInt, To: math.MaxInt}, {From: math.MaxInt, To: math.MinInt}, {From: math.MinInt, To: 1}, {To: math.MaxInt}}
	for _, l := range signals() {
		for _, late := range numbers(0, 3) {
			wantError(t, results(l.v, late.v), results(composite.Aligned(l.v, late.v)), firstError(l.e, late.e), []float32(nil))
		}
		for _, porch := range spans {
			e := l.e
			if porch.From < 0 || porch.From >= porch.To || porch.To > len(l.v) {
				e = firstError(e, api.ErrSpan)
			}
			wantError(t, results(l.v, porch), results(composite.Clamped(l.v, porch, 0)), e, []float32(nil))
			for _, level := range wrongSamples() {
				wantError(t, results(l.v, porch, level), results(composite.Clamped(l.v, porch, level.v)), firstError(e, level.e), []float32(nil))
			}
		}
	}
	large := samples(-16384, 16384, 0, 0)
	want(t, "an error before ErrLarge", results(composite.Clamped(large, api.Span{To: 1}, nan)), []float32(nil), api.ErrForm)
}
