package colour_test

import (
	"fmt"
	"math"
	"slices"
	"testing"

	"genlock/api"
	"genlock/colour"
	"genlock/picture"
)

// The tests use the exported functions alone, so that they hold for every implementation of the chapter.

var (
	nan      = float32(math.NaN())
	infinite = float32(math.Inf(1))
)

// results returns the results of a call as a list.
func results(l ...any) []any { return l }

// want compares the results of a call with the expected ones; nil and empty lists are equal.
func want(t *testing.T, what any, got []any, wanted ...any) {
	t.Helper()
	if g, w := fmt.Sprintf("%+v", got), fmt.Sprintf("%+v", wanted); g != w {
		t.Errorf("%+v: got %s, want %s", what, g, w)
	}
}

// given is an argument, and its error.
type given[T any] struct {
	v T
	e api.Errno
}

// firstError returns the first error of some, or OK.
func firstError(l ...api.Errno) api.Errno {
	for _, e := range l {
		if e != api.OK {
			return e
		}
	}
	return api.OK
}

// wantError compares the results of a call with zero values and an error, or its error with OK.
func wantError(t *testing.T, what any, got []any, e api.Errno, zero any) {
	t.Helper()
	if e == api.OK {
		got, zero = slices.Clone(got), nil
		got[0] = nil
	}
	want(t, what, got, zero, e)
}

// dice are numbers that are the same in every run.
type dice uint64

func (d *dice) below(n int) int {
	*d = *d*6364136223846793005 + 1442695040888963407
	return int(uint64(*d) >> 33 % uint64(n))
}

// level returns an integer from -most to most.
func (d *dice) level(most int) int { return d.below(2*most+1) - most }

// levels returns some integers from -most to most.
func (d *dice) levels(n, most int) []int {
	l := make([]int, n)
	for i := range l {
		l[i] = d.level(most)
	}
	return l
}

// colour returns three integers from -most to most.
func (d *dice) colour(most int) [3]int { return [3]int(d.levels(3, most)) }

// matrix returns a matrix with entries from -most to most, and a Den from 1 to most.
func (d *dice) matrix(most int) colour.Matrix {
	return colour.Matrix{Rows: [3][3]int{d.colour(most), d.colour(most), d.colour(most)}, Den: 1 + d.below(most)}
}

// curve returns a curve between two levels.
func (d *dice) curve(low, high int) colour.Curve {
	for {
		var in, out []int
		for range 2 + d.below(15) {
			in, out = append(in, low+d.below(high-low+1)), append(out, low+d.below(high-low+1))
		}
		slices.Sort(in)
		slices.Sort(out)
		c := make(colour.Curve, len(in))
		for i := range c {
			c[i] = colour.Point{In: in[i], Out: out[i]}
		}
		if colour.CheckCurve(c) == api.OK {
			return c
		}
	}
}

// samples returns the samples with some levels.
func samples(levels ...int) []float32 {
	var l []float32
	for _, n := range levels {
		l = append(l, float32(n)/16)
	}
	return l
}

// made returns a picture with the name p, and samples with these levels.
func made(width, height int, levels ...int) picture.Picture {
	return picture.Picture{Name: "p", Width: width, Height: height, Samples: samples(levels...)}
}

// filled returns a picture with the same level everywhere.
func filled(width, height, level int) picture.Picture {
	return made(width, height, slices.Repeat([]int{level}, width*height)...)
}

// named returns the picture with another name.
func named(name string, p picture.Picture) picture.Picture {
	p.Name = name
	return p
}

// with returns the picture with another sample at a place.
func with(p picture.Picture, at int, x float32) picture.Picture {
	p.Samples = slices.Clone(p.Samples)
	p.Samples[at] = x
	return p
}

// curveC and matrixM are those of the chapter's examples.
func curveC() colour.Curve {
	return colour.Curve{{In: 0, Out: 0}, {In: 100, Out: 200}, {In: 300, Out: 300}}
}

func matrixM() colour.Matrix {
	return colour.Matrix{Rows: [3][3]int{{1, 1, 0}, {0, 1, 0}, {0, 0, 2}}, Den: 2}
}

// stairs returns a curve with n points.
func stairs(n int) colour.Curve {
	var c colour.Curve
	for i := range n {
		c = append(c, colour.Point{In: 10 * i, Out: 20*i - 5})
	}
	return c
}

// curves are curves with their errors.
func curves() []given[colour.Curve] {
	return []given[colour.Curve]{
		{curveC(), api.OK},
		{colour.Curve{{In: -16384, Out: -16384}, {In: 16384, Out: 16384}}, api.OK},
		{colour.Curve{{In: 1, Out: 16383}, {In: 2, Out: 16384}}, api.OK},
		{stairs(16), api.OK},
		{nil, api.ErrShort},
		{colour.Curve{{In: 99999, Out: 0}}, api.ErrShort},
		{stairs(1), api.ErrShort},
		{stairs(17), api.ErrMany},
		{append(colour.Curve{{In: -16385}}, stairs(16)...), api.ErrMany},
		{colour.Curve{{In: -16385, Out: 0}, {In: 1, Out: 1}}, api.ErrRange},
		{colour.Curve{{In: 0, Out: -16385}, {In: 1, Out: 1}}, api.ErrRange},
		{colour.Curve{{In: 0, Out: 0}, {In: 16385, Out: 1}}, api.ErrRange},
		{colour.Curve{{In: 0, Out: 0}, {In: 1, Out: 16385}}, api.ErrRange},
		{colour.Curve{{In: math.MinInt, Out: math.MinInt}, {In: math.MaxInt, Out: math.MaxInt}}, api.ErrRange},
		{colour.Curve{{In: 5, Out: 0}, {In: 4, Out: 16385}}, api.ErrRange},
		{colour.Curve{{In: 0, Out: 5}, {In: -16385, Out: 4}}, api.ErrRange},
		{colour.Curve{{In: 0, Out: 0}, {In: 0, Out: 1}}, api.ErrOrder},
		{colour.Curve{{In: 0, Out: 0}, {In: 1, Out: 0}}, api.ErrOrder},
		{colour.Curve{{In: 0, Out: 0}, {In: -1, Out: 1}}, api.ErrOrder},
		{colour.Curve{{In: 0, Out: 0}, {In: 1, Out: -1}}, api.ErrOrder},
		{colour.Curve{{In: -1, Out: -1}, {In: 0, Out: 0}, {In: 0, Out: 2}}, api.ErrOrder},
		{colour.Curve{{In: 0, Out: 0}, {In: 0, Out: 0}, {In: 16385, Out: 0}}, api.ErrOrder},
		{colour.Curve{{In: 0, Out: 0}, {In: 16385, Out: 0}, {In: 0, Out: 0}}, api.ErrRange},
	}
}

// levels are levels with their errors.
func levels() []given[int] {
	return []given[int]{
		{-16384, api.OK}, {0, api.OK}, {16384, api.OK},
		{-16385, api.ErrRange}, {16385, api.ErrRange}, {math.MinInt, api.ErrRange}, {math.MaxInt, api.ErrRange},
	}
}

// pictures are pictures with their errors; those that have none are 3 columns wide and 2 rows high.
func pictures() []given[picture.Picture] {
	right := made(3, 2, 16, 32, -48, 64, 0, -16384)
	return []given[picture.Picture]{
		{right, api.OK},
		{named("abcdefghijklmnopqrstuvwx", filled(3, 2, 16384)), api.OK},
		{picture.Picture{}, api.ErrName},
		{named("9", with(right, 0, nan)), api.ErrName},
		{picture.Picture{Name: "p", Width: 0, Height: 1}, api.ErrRange},
		{picture.Picture{Name: "p", Width: math.MaxInt, Height: math.MaxInt}, api.ErrRange},
		{picture.Picture{Name: "p", Width: 1, Height: 65, Samples: make([]float32, 65)}, api.ErrRange},
		{picture.Picture{Name: "p", Width: 3, Height: 2, Samples: []float32{nan, 1}}, api.ErrShape},
		{with(with(right, 4, 0.03125), 5, nan), api.ErrRange},
		{with(with(right, 5, 0.03125), 4, nan), api.ErrForm},
		{with(right, 0, -infinite), api.ErrForm},
		{with(right, 5, 1024.0625), api.ErrRange},
	}
}

// matrices are matrices with their errors.
func matrices() []given[colour.Matrix] {
	l := []given[colour.Matrix]{
		{matrixM(), api.OK},
		{colour.Matrix{Den: 1}, api.OK},
		{colour.Matrix{Rows: [3][3]int{{4096, -4096, 0}, {0, 4096, 0}, {0, 0, -4096}}, Den: 4096}, api.OK},
		{colour.Matrix{}, api.ErrRange},
		{colour.Matrix{Den: 4097}, api.ErrRange},
		{colour.Matrix{Den: -1}, api.ErrRange},
		{colour.Matrix{Den: math.MinInt}, api.ErrRange},
	}
	for _, n := range []int{4097, -4097, math.MaxInt, math.MinInt} {
		for i := range 9 {
			m := matrixM()
			m.Rows[i/3][i%3] = n
			l = append(l, given[colour.Matrix]{m, api.ErrRange})
		}
	}
	return l
}

// colours are colours with their errors.
func colours() []given[[3]int] {
	l := []given[[3]int]{{[3]int{3, 4, 5}, api.OK}, {[3]int{-16384, 0, 16384}, api.OK}}
	for _, n := range []int{-16385, 16385, math.MinInt, math.MaxInt} {
		l = append(l, given[[3]int]{[3]int{n, 0, 0}, api.ErrRange}, given[[3]int]{[3]int{0, n, 0}, api.ErrRange}, given[[3]int]{[3]int{0, 0, n}, api.ErrRange})
	}
	return l
}

// intervals are intervals of levels with their errors.
func intervals() []given[api.Interval] {
	return []given[api.Interval]{
		{api.Interval{Low: -1, High: 1}, api.OK},
		{api.Interval{Low: 16384, High: 16384}, api.OK},
		{api.Interval{Low: -16384, High: -16384}, api.OK},
		{api.Interval{Low: -16385, High: 0}, api.ErrRange},
		{api.Interval{Low: 0, High: 16385}, api.ErrRange},
		{api.Interval{Low: 16385, High: 16384}, api.ErrRange},
		{api.Interval{Low: -16384, High: -16385}, api.ErrRange},
		{api.Interval{Low: 16385, High: 16385}, api.ErrRange},
		{api.Interval{Low: math.MinInt, High: math.MaxInt}, api.ErrRange},
		{api.Interval{Low: math.MaxInt, High: math.MinInt}, api.ErrRange},
		{api.Interval{Low: 1, High: 0}, api.ErrOrder},
		{api.Interval{Low: 16384, High: -16384}, api.ErrOrder},
	}
}

// gamuts are gamuts with their errors.
func gamuts() []given[[]colour.Plane] {
	l := []given[[]colour.Plane]{
		{nil, api.OK},
		{[]colour.Plane{{Normal: [3]int{1, 1, 1}, Most: 10}}, api.OK},
		{[]colour.Plane{{Normal: [3]int{4096, -4096, 4096}, Most: 1 << 40}, {Most: -1 << 40}}, api.OK},
		{make([]colour.Plane, 16), api.OK},
		{make([]colour.Plane, 17), api.ErrMany},
		{slices.Repeat([]colour.Plane{{Most: math.MaxInt}}, 17), api.ErrMany},
		{[]colour.Plane{{Most: 1<<40 + 1}}, api.ErrRange},
		{[]colour.Plane{{}, {Most: -1<<40 - 1}}, api.ErrRange},
		{[]colour.Plane{{Normal: [3]int{math.MaxInt, math.MinInt, 0}, Most: math.MinInt}}, api.ErrRange},
	}
	for _, n := range []int{-4097, 4097} {
		for i := range 3 {
			planes := make([]colour.Plane, 2)
			planes[1].Normal[i] = n
			l = append(l, given[[]colour.Plane]{planes, api.ErrRange})
		}
	}
	return l
}

// triples are three pictures with their errors.
func triples() []given[[3]picture.Picture] {
	right := made(3, 2, 1, 2, 3, 4, 5, 6)
	l := []given[[3]picture.Picture]{
		{[3]picture.Picture{right, named("q", right), filled(3, 2, -7)}, api.OK},
		{[3]picture.Picture{right, filled(2, 3, 0), right}, api.ErrShape},
		{[3]picture.Picture{right, right, filled(2, 3, 0)}, api.ErrShape},
		{[3]picture.Picture{filled(2, 3, 0), right, right}, api.ErrShape},
		{[3]picture.Picture{right, filled(3, 3, 0), right}, api.ErrShape},
		{[3]picture.Picture{right, right, filled(4, 2, 0)}, api.ErrShape},
		{[3]picture.Picture{right, filled(1, 1, 0), named("", right)}, api.ErrName},
		{[3]picture.Picture{right, with(right, 0, nan), named("", right)}, api.ErrForm},
	}
	for _, p := range pictures() {
		if p.e != api.OK {
			l = append(l, given[[3]picture.Picture]{[3]picture.Picture{p.v, right, right}, p.e}, given[[3]picture.Picture]{[3]picture.Picture{right, p.v, right}, p.e}, given[[3]picture.Picture]{[3]picture.Picture{right, right, p.v}, p.e})
		}
	}
	return l
}

// sequences are sequences with their errors.
func sequences() []given[[]picture.Picture] {
	right := made(3, 2, 1, 2, 3, 4, 5, 6)
	one := filled(1, 1, 0)
	l := []given[[]picture.Picture]{
		{nil, api.OK},
		{[]picture.Picture{right}, api.OK},
		{[]picture.Picture{right, filled(3, 2, 99), named("q", right)}, api.OK},
		{slices.Repeat([]picture.Picture{one}, 256), api.OK},
		{slices.Repeat([]picture.Picture{one}, 257), api.ErrMany},
		{make([]picture.Picture, 257), api.ErrMany},
		{[]picture.Picture{right, filled(2, 3, 0)}, api.ErrShape},
		{[]picture.Picture{right, right, filled(3, 1, 0)}, api.ErrShape},
		{[]picture.Picture{right, filled(1, 2, 0)}, api.ErrShape},
		{[]picture.Picture{right, one, with(one, 0, nan)}, api.ErrShape},
		{[]picture.Picture{right, with(one, 0, nan), one}, api.ErrForm},
	}
	for _, p := range pictures() {
		if p.e != api.OK {
			l = append(l, given[[]picture.Picture]{[]picture.Picture{p.v}, p.e}, given[[]picture.Picture]{[]picture.Picture{right, p.v, one}, p.e})
		}
	}
	return l
}

// steps are steps with their errors.
func steps() []given[float32] {
	return []given[float32]{
		{0, api.OK}, {1, api.OK}, {1024, api.OK}, {float32(math.Copysign(0, -1)), api.OK},
		{-0.0625, api.ErrRange}, {-1024, api.ErrRange}, {0.03125, api.ErrRange}, {1024.0625, api.ErrRange},
		{nan, api.ErrForm}, {infinite, api.ErrForm}, {-infinite, api.ErrForm},
	}
}

// sounds are sounds with their errors.
func sounds() []given[[]float32] {
	return []given[[]float32]{
		{nil, api.OK}, {samples(16, 32, 0, 16), api.OK}, {make([]float32, 4096), api.OK},
		{make([]float32, 4097), api.ErrMany}, {slices.Repeat([]float32{nan}, 4097), api.ErrMany},
		{[]float32{1, 0.01, nan}, api.ErrRange}, {[]float32{1, nan, 0.01}, api.ErrForm}, {[]float32{infinite}, api.ErrForm}, {[]float32{-1024.0625}, api.ErrRange},
	}
}

// tapses are taps with their errors.
func tapses() []given[[]int] {
	return []given[[]int]{
		{[]int{1, -1}, api.OK}, {[]int{-100, 100, 0, 0, 0, 0, 0, 1}, api.OK}, {[]int{0}, api.OK},
		{nil, api.ErrEmpty}, {make([]int, 9), api.ErrMany}, {slices.Repeat([]int{101}, 9), api.ErrMany},
		{[]int{101}, api.ErrRange}, {[]int{0, -101}, api.ErrRange}, {[]int{math.MinInt, math.MaxInt}, api.ErrRange},
	}
}

// numbers are the least and the greatest number of a range, some outside of it, and their errors.
func numbers(low, high int) []given[int] {
	return []given[int]{
		{low, api.OK}, {high, api.OK},
		{low - 1, api.ErrRange}, {high + 1, api.ErrRange}, {math.MinInt, api.ErrRange}, {math.MaxInt, api.ErrRange},
	}
}

// gains are gains for n columns or rows, with their errors.
func gains(n int) []given[[]int] {
	l := []given[[]int]{
		{slices.Repeat([]int{256}, n), api.OK}, {make([]int, n), api.OK},
		{make([]int, n-1), api.ErrShape}, {slices.Repeat([]int{-1}, n+1), api.ErrShape}, {nil, api.ErrShape},
	}
	for _, gain := range []int{-1, 513, math.MinInt, math.MaxInt} {
		wrong := make([]int, n)
		wrong[n-1] = gain
		l = append(l, given[[]int]{wrong, api.ErrRange})
	}
	return l
}
