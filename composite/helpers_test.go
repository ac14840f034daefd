package composite_test

import (
	"fmt"
	"math"
	"slices"
	"testing"

	"genlock/api"
	"genlock/composite"
)

// The tests use the exported functions alone, so that they hold for every implementation of the chapter.

var (
	nan      = float32(math.NaN())
	infinite = float32(math.Inf(1))
	minus0   = float32(math.Copysign(0, -1))
)

// results returns the results of a call as a list.
func results(l ...any) []any { return l }

// want compares the results of a call with the expected ones; nil and empty lists are equal.
func want(t *testing.T, what any, got []any, wanted ...any) {
	t.Helper()
	if g, w := fmt.Sprintf("%+v", got), fmt.Sprintf("%+v", wanted); g != w {
		t.Errorf("%+v: got %s, want %s", what, g, w)
	}
}

// wantError compares the error of a call, its last result, with the expected one; beside an error all other results are zero values.
func wantError(t *testing.T, what any, got []any, e api.Errno, zero ...any) {
	t.Helper()
	if e == api.OK {
		got, zero = got[len(got)-1:], nil
	}
	want(t, what, got, append(slices.Clone(zero), e)...)
}

// must returns a result that has no error.
func must[T any](t *testing.T) func(x T, e api.Errno) T {
	return func(x T, e api.Errno) T {
		t.Helper()
		if e != api.OK {
			t.Fatalf("error %d", e)
		}
		return x
	}
}

// dice are numbers that are the same in every run.
type dice uint64

func (d *dice) below(n int) int {
	*d = *d*6364136223846793005 + 1442695040888963407
	return int(uint64(*d) >> 33 % uint64(n))
}

// levels returns some integers from -most to most.
func (d *dice) levels(n, most int) []int {
	l := make([]int, n)
	for i := range l {
		l[i] = d.below(2*most+1) - most
	}
	return l
}

// signal returns a signal of some cycles with integers from -most to most.
func (d *dice) signal(cycles, most int) []float32 { return samples(d.levels(4*cycles, most)...) }

// field returns some signals of some cycles.
func (d *dice) field(lines, cycles, most int) [][]float32 {
	l := make([][]float32, lines)
	for i := range l {
		l[i] = d.signal(cycles, most)
	}
	return l
}

// parts returns parts of some cycles.
func (d *dice) parts(cycles, most int) composite.Parts {
	return composite.Parts{Luma: d.signal(cycles, most), U: samples(d.levels(cycles, most)...), V: samples(d.levels(cycles, most)...)}
}

// samples returns the samples with some levels.
func samples(levels ...int) []float32 {
	l := make([]float32, len(levels))
	for i, n := range levels {
		l[i] = float32(n) / 16
	}
	return l
}

// levels returns the integers of samples.
func levels(l []float32) []int {
	n := make([]int, len(l))
	for i, x := range l {
		n[i] = int(16 * x)
	}
	return n
}

// partsP and partsQ are those of the chapter's examples.
func partsP() composite.Parts {
	return composite.Parts{Luma: []float32{10, 20, 10, 20}, U: []float32{3}, V: []float32{-2}}
}

func partsQ() composite.Parts {
	return composite.Parts{Luma: []float32{10, 20, 14, 20}, U: []float32{3}, V: []float32{-2}}
}

// silent returns parts of some cycles of which all samples are 0.
func silent(cycles int) composite.Parts {
	return composite.Parts{Luma: make([]float32, 4*cycles), U: make([]float32, cycles), V: make([]float32, cycles)}
}

// firstError returns the first error of some, or OK.
func firstError(l ...api.Errno) api.Errno {
	for _, e := range l {
		if e != api.OK {
			return e
		}
	}
	return api.OK
}

// given is an argument, and its error.
type given[T any] struct {
	v T
	e api.Errno
}

// wrongSamples are numbers that are no samples, with their errors.
func wrongSamples() []given[float32] {
	return []given[float32]{{nan, api.ErrForm}, {infinite, api.ErrForm}, {-infinite, api.ErrForm}, {0.03125, api.ErrRange}, {1024.0625, api.ErrRange}, {-1024.0625, api.ErrRange}, {math.MaxFloat32, api.ErrRange}, {math.SmallestNonzeroFloat32, api.ErrRange}}
}

// signals are signals with their errors.
func signals() []given[[]float32] {
	l := []given[[]float32]{
		{nil, api.OK},
		{[]float32{13, 18, 7, 22}, api.OK},
		{[]float32{0, 0.0625, minus0, -0.0625, 0, 0, 0, 0}, api.OK},
		{make([]float32, 256), api.OK},
		{make([]float32, 257), api.ErrMany},
		{make([]float32, 260), api.ErrMany},
		{slices.Repeat([]float32{nan}, 300), api.ErrMany},
		{[]float32{1}, api.ErrShape},
		{[]float32{1, 2}, api.ErrShape},
		{[]float32{nan, 0.01, 3}, api.ErrShape},
		{make([]float32, 255), api.ErrShape},
		{[]float32{0, nan, 0.01, 0}, api.ErrForm},
		{[]float32{0, 0.01, nan, 0}, api.ErrRange},
	}
	for _, x := range wrongSamples() {
		l = append(l, given[[]float32]{[]float32{1, 2, 3, x.v}, x.e})
		l = append(l, given[[]float32]{[]float32{1, 2, 3, 4, x.v, 6, 7, 8}, x.e})
	}
	return l
}

// partses are parts with their errors.
func partses() []given[composite.Parts] {
	l := []given[composite.Parts]{
		{partsP(), api.OK},
		{silent(0), api.OK},
		{silent(64), api.OK},
		{silent(65), api.ErrMany},
		{composite.Parts{Luma: make([]float32, 260)}, api.ErrMany},
		{composite.Parts{U: []float32{0}}, api.ErrShape},
		{composite.Parts{V: []float32{0}}, api.ErrShape},
		{composite.Parts{Luma: make([]float32, 4)}, api.ErrShape},
		{composite.Parts{Luma: make([]float32, 4), U: make([]float32, 1)}, api.ErrShape},
		{composite.Parts{Luma: make([]float32, 4), V: make([]float32, 1)}, api.ErrShape},
		{composite.Parts{Luma: make([]float32, 4), U: make([]float32, 4), V: make([]float32, 4)}, api.ErrShape},
		{composite.Parts{Luma: make([]float32, 8), U: make([]float32, 2), V: make([]float32, 3)}, api.ErrShape},
		{composite.Parts{Luma: make([]float32, 7), U: make([]float32, 1), V: make([]float32, 1)}, api.ErrShape},
		{composite.Parts{Luma: []float32{0, 0, 0, nan}, U: []float32{0.01, 0}}, api.ErrForm},
		{composite.Parts{Luma: make([]float32, 4), U: []float32{nan}}, api.ErrShape},
		{composite.Parts{Luma: make([]float32, 4), U: []float32{nan}, V: []float32{0.01}}, api.ErrForm},
		{composite.Parts{Luma: make([]float32, 4), U: []float32{0.01}, V: []float32{nan}}, api.ErrRange},
	}
	for _, x := range wrongSamples() {
		u, v := silent(2), silent(2)
		u.U[1], v.V[0] = x.v, x.v
		l = append(l, given[composite.Parts]{u, x.e}, given[composite.Parts]{v, x.e})
	}
	for _, x := range signals() {
		if x.e != api.OK {
			l = append(l, given[composite.Parts]{composite.Parts{Luma: x.v, U: []float32{nan}}, x.e})
		}
	}
	return l
}

// fields are fields with their errors.
func fields() []given[[][]float32] {
	right := []float32{13, 18, 7, 22}
	l := []given[[][]float32]{
		{nil, api.OK},
		{[][]float32{nil}, api.OK},
		{[][]float32{nil, {}, nil}, api.OK},
		{[][]float32{right}, api.OK},
		{[][]float32{right, right}, api.OK},
		{[][]float32{right, right, right, right}, api.OK},
		{slices.Repeat([][]float32{make([]float32, 256)}, 32), api.OK},
		{slices.Repeat([][]float32{make([]float32, 256)}, 33), api.ErrMany},
		{slices.Repeat([][]float32{{nan}}, 33), api.ErrMany},
		{[][]float32{right, nil}, api.ErrShape},
		{[][]float32{nil, right}, api.ErrShape},
		{[][]float32{right, right, make([]float32, 8)}, api.ErrShape},
		{[][]float32{right, make([]float32, 8), {nan, 0, 0, 0}}, api.ErrShape},
		{[][]float32{right, {nan, 0, 0, 0}, make([]float32, 8)}, api.ErrForm},
		{[][]float32{right, {0, 0, 0, 0, 0, 0, 0, 0.01}}, api.ErrRange},
	}
	for _, x := range signals() {
		if x.e != api.OK {
			l = append(l, given[[][]float32]{[][]float32{x.v, right}, x.e}, given[[][]float32]{[][]float32{right, x.v}, x.e})
		}
	}
	return l
}

// numbers are the least and the greatest number of a range, some outside of it, and their errors.
func numbers(low, high int) []given[int] {
	return []given[int]{
		{low, api.OK}, {high, api.OK},
		{low - 1, api.ErrRange}, {high + 1, api.ErrRange}, {math.MinInt, api.ErrRange}, {math.MaxInt, api.ErrRange},
	}
}

// bursts are bursts with their errors.
func bursts() []given[[4]float32] {
	l := []given[[4]float32]{{[4]float32{0, 5, 0, -5}, api.OK}, {[4]float32{1024, -1024, -1024, 1024}, api.OK}, {[4]float32{0.01, nan}, api.ErrRange}, {[4]float32{nan, 0.01}, api.ErrForm}}
	for _, x := range wrongSamples() {
		for i := range 4 {
			b := [4]float32{1, 2, 3, 4}
			b[i] = x.v
			l = append(l, given[[4]float32]{b, x.e})
		}
	}
	return l
}

// tapses are taps with their errors.
func tapses() []given[[]int] {
	return []given[[]int]{
		{[]int{1, 0, -1}, api.OK}, {[]int{0}, api.OK}, {[]int{0, 0, 0, 0, 0, 0, 0, 1}, api.OK},
		{nil, api.ErrEmpty}, {make([]int, 9), api.ErrMany}, {slices.Repeat([]int{1001}, 9), api.ErrMany},
		{[]int{1001}, api.ErrRange}, {[]int{0, -1001}, api.ErrRange}, {[]int{0, 0, 0, 0, 0, 0, 0, 1001}, api.ErrRange}, {[]int{math.MinInt, math.MaxInt}, api.ErrRange},
	}
}
