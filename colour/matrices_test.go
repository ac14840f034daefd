package colour_test

import (
	"math"
	"testing"

	"genlock/api"
	"genlock/colour"
)

// matrix returns a matrix with nine entries, row by row, and a Den.
func matrix(den int, l ...int) colour.Matrix {
	return colour.Matrix{Rows: [3][3]int{[3]int(l[:3]), [3]int(l[3:6]), [3]int(l[6:])}, Den: den}
}

// P2.2
func TestCheckMatrix(t *testing.T) {
	for _, m := range matrices() {
		want(t, m.v, results(colour.CheckMatrix(m.v)), m.e)
	}
}

// P2.2
func TestConverted(t *testing.T) {
	mixed := matrix(3, 1, -2, 4, 0, 0, -1, 5, 0, 0)
	for _, x := range []struct {
		m        colour.Matrix
		from, to [3]int
	}{
		{matrixM(), [3]int{3, 4, 5}, [3]int{4, 2, 5}},
		{matrixM(), [3]int{-3, -4, -5}, [3]int{-3, -2, -5}},
		{matrixM(), [3]int{0, 1, 0}, [3]int{1, 1, 0}},
		{matrixM(), [3]int{0, -1, 0}, [3]int{0, 0, 0}},
		{mixed, [3]int{1, 1, 1}, [3]int{1, 0, 2}},
		{mixed, [3]int{1, 2, -1}, [3]int{-2, 0, 2}},
		{mixed, [3]int{-1, 0, 2}, [3]int{2, -1, -2}},
		{matrix(1, 0, 0, 1, 1, 0, 0, 0, 1, 0), [3]int{16384, -16384, 7}, [3]int{7, 16384, -16384}},
		{matrix(4096, 4096, 0, 0, 0, 4096, 0, 1, 1, 1), [3]int{16384, -16384, 2048}, [3]int{16384, -16384, 1}},
		{matrix(4096, 1, 0, 0, 0, 0, 0, -1, 0, 0), [3]int{2047, 0, 0}, [3]int{0, 0, 0}},
		{matrix(4096, 1, 0, 0, 0, 0, 0, -1, 0, 0), [3]int{2048, 0, 0}, [3]int{1, 0, 0}},
		{matrix(4096, 1, 0, 0, 0, 0, 0, -1, 0, 0), [3]int{2049, 0, 0}, [3]int{1, 0, -1}},
		// 32769 by 2 is 16384.5 and would be 16385; -32769 by 2 is still a level
		{matrix(2, 0, 0, 0, 2, 1, 0, 0, 0, 0), [3]int{-16384, -1, 0}, [3]int{0, -16384, 0}},
	} {
		want(t, x, results(colour.Converted(x.m, x.from)), x.to, api.OK)
	}
	for _, x := range []struct {
		m    colour.Matrix
		from [3]int
	}{
		{matrix(2, 2, 1, 0, 0, 0, 0, 0, 0, 0), [3]int{16384, 1, 0}},
		{matrix(2, 0, 0, 0, 2, 1, 0, 0, 0, 0), [3]int{16384, 1, 0}},
		{matrix(2, 0, 0, 0, 0, 0, 0, 0, 1, 2), [3]int{0, -2, -16384}},
		{matrix(1, 4096, 4096, 4096, 0, 0, 0, 0, 0, 0), [3]int{16384, 16384, 16384}},
		{matrix(1, 0, 0, 0, 0, 0, 0, 4096, 4096, 4096), [3]int{-16384, -16384, -16384}},
	} {
		want(t, x, results(colour.Converted(x.m, x.from)), [3]int{}, api.ErrLarge)
	}
}

// P2.2
func TestComposed(t *testing.T) {
	a, b := matrix(2, 1, 2, 3, 4, 5, 6, 7, 8, 10), matrix(3, 0, 1, 0, 1, 0, 0, 0, 0, -2)
	for _, x := range []struct{ a, b, composed colour.Matrix }{
		{matrixM(), matrixM(), matrix(4, 1, 2, 0, 0, 1, 0, 0, 0, 4)},
		{a, b, matrix(6, 4, 5, 6, 1, 2, 3, -14, -16, -20)},
		{b, a, matrix(6, 2, 1, -6, 5, 4, -12, 8, 7, -20)},
		{matrix(4096, 4096, 0, 0, 0, 4096, 0, 0, 0, 4096), a, a},
		{matrix(4, 0, 0, 0, 0, 0, 0, 0, 0, 0), b, matrix(1, 0, 0, 0, 0, 0, 0, 0, 0, 0)},
		{matrix(6, 4, 0, 0, 0, 4, 0, 0, 0, 4), matrix(2, 4, 0, 0, 0, -4, 0, 0, 0, 8), matrix(3, 4, 0, 0, 0, -4, 0, 0, 0, 8)},
		{matrix(1, 64, 0, 0, 0, 1, 0, 0, 0, 1), matrix(1, 64, 0, 0, 0, 1, 0, 0, 0, -4096), matrix(1, 4096, 0, 0, 0, 1, 0, 0, 0, -4096)},
		{matrix(64, 1, 0, 0, 0, 1, 0, 0, 0, 1), matrix(64, 1, 0, 0, 0, 1, 0, 0, 0, 1), matrix(4096, 1, 0, 0, 0, 1, 0, 0, 0, 1)},
	} {
		want(t, x, results(colour.Composed(x.a, x.b)), x.composed, api.OK)
	}
	for _, x := range []struct{ a, b colour.Matrix }{
		{matrix(1, 4096, 0, 0, 0, 1, 0, 0, 0, 0), matrix(1, 1, 1, 0, 0, 1, 0, 4096, 1, 0)},
		{matrix(1, 4096, 0, 0, 0, 1, 0, 0, 0, 0), matrix(1, -1, 0, 0, 0, 1, 0, -4096, 0, 0)},
		{matrix(1, 0, 0, 17, 0, 1, 0, 0, 0, 0), matrix(1, 241, 0, 0, 0, 0, 0, 0, 0, 0)},
		{matrix(17, 1, 0, 0, 0, 1, 0, 0, 0, 0), matrix(241, 1, 0, 0, 0, 1, 0, 0, 0, 0)},
	} {
		want(t, x, results(colour.Composed(x.a, x.b)), colour.Matrix{}, api.ErrLarge)
	}
}

// P2.2
func TestDeterminant(t *testing.T) {
	for _, x := range []struct {
		m colour.Matrix
		d int
	}{
		{matrixM(), 2},
		{matrix(7, 1, 2, 3, 4, 5, 6, 7, 8, 10), -3},
		{matrix(1, 1, 2, 3, 4, 5, 6, 7, 8, 9), 0},
		{matrix(1, 0, 1, 0, 1, 0, 0, 0, 0, 1), -1},
		{matrix(1, 0, 0, 1, 1, 0, 0, 0, 1, 0), 1},
		{matrix(1, 2, -3, 5, 7, 11, -13, 17, 19, 23), 1876},
		{matrix(1, 4096, 4096, -4096, -4096, 4096, 4096, 4096, -4096, 4096), 274877906944},
	} {
		want(t, x, results(colour.Determinant(x.m)), x.d, api.OK)
	}
}

// P2.2
func TestInverted(t *testing.T) {
	for _, x := range []struct {
		m       colour.Matrix
		inverse [3][3]api.Ratio
	}{
		{matrixM(), [3][3]api.Ratio{{{Num: 2, Den: 1}, {Num: -2, Den: 1}, {Num: 0, Den: 1}}, {{Num: 0, Den: 1}, {Num: 2, Den: 1}, {Num: 0, Den: 1}}, {{Num: 0, Den: 1}, {Num: 0, Den: 1}, {Num: 1, Den: 1}}}},
		{matrix(2, 1, 2, 3, 4, 5, 6, 7, 8, 10), [3][3]api.Ratio{{{Num: -4, Den: 3}, {Num: -8, Den: 3}, {Num: 2, Den: 1}}, {{Num: -4, Den: 3}, {Num: 22, Den: 3}, {Num: -4, Den: 1}}, {{Num: 2, Den: 1}, {Num: -4, Den: 1}, {Num: 2, Den: 1}}}},
		{matrix(4096, 0, 0, -4095, 0, 4093, 0, 4091, 0, 0), [3][3]api.Ratio{{{Num: 0, Den: 1}, {Num: 0, Den: 1}, {Num: 4096, Den: 4091}}, {{Num: 0, Den: 1}, {Num: 4096, Den: 4093}, {Num: 0, Den: 1}}, {{Num: -4096, Den: 4095}, {Num: 0, Den: 1}, {Num: 0, Den: 1}}}},
		// integers above MaxNumber
		{matrix(4093, 4096, 4095, 0, 0, 4096, 4095, 4095, 0, 4096), [3][3]api.Ratio{{{Num: 68669145088, Den: 137388634111}, {Num: -68652380160, Den: 137388634111}, {Num: 68635619325, Den: 137388634111}}, {{Num: 68635619325, Den: 137388634111}, {Num: 68669145088, Den: 137388634111}, {Num: -68652380160, Den: 137388634111}}, {{Num: -68652380160, Den: 137388634111}, {Num: 68635619325, Den: 137388634111}, {Num: 68669145088, Den: 137388634111}}}},
	} {
		want(t, x, results(colour.Inverted(x.m)), x.inverse, api.OK)
	}
	for _, m := range []colour.Matrix{matrix(1, 1, 2, 3, 4, 5, 6, 7, 8, 9), {Den: 5}, matrix(1, 1, 1, 0, 1, 1, 0, 0, 0, 1)} {
		want(t, m, results(colour.Inverted(m)), [3][3]api.Ratio{}, api.ErrSingular)
	}
}

// P2.2
func TestLost(t *testing.T) {
	unit := matrix(1, 1, 0, 0, 0, 1, 0, 0, 0, 1)
	for _, x := range []struct {
		m    colour.Matrix
		cube api.Interval
		lost [][3]int
	}{
		{matrixM(), api.Interval{Low: 0, High: 1}, [][3]int{{0, 1, 0}, {0, 1, 1}}},
		{unit, api.Interval{Low: -16384, High: -16379}, nil},
		{unit, api.Interval{Low: 16379, High: 16384}, nil},
		{colour.Matrix{Den: 1}, api.Interval{Low: 0, High: 0}, nil},
		{colour.Matrix{Den: 1}, api.Interval{Low: -1, High: -1}, [][3]int{{-1, -1, -1}}},
		{colour.Matrix{Den: 1}, api.Interval{Low: -1, High: 0}, [][3]int{{-1, -1, -1}, {-1, -1, 0}, {-1, 0, -1}, {-1, 0, 0}, {0, -1, -1}, {0, -1, 0}, {0, 0, -1}}},
		// 2, 2, 2 is outside of the cube, and so reaches nothing
		{matrix(1, 2, 0, 0, 0, 1, 0, 0, 0, 1), api.Interval{Low: 1, High: 2}, [][3]int{{1, 1, 1}, {1, 1, 2}, {1, 2, 1}, {1, 2, 2}}},
		// what becomes too large to be a level reaches nothing, too
		{matrix(1, 4096, 0, 0, 0, 4096, 0, 0, 0, 4096), api.Interval{Low: 16383, High: 16383}, [][3]int{{16383, 16383, 16383}}},
		{matrix(1, -1, 0, 0, 0, 1, 0, 0, 0, 1), api.Interval{Low: -1, High: 0}, [][3]int{{-1, -1, -1}, {-1, -1, 0}, {-1, 0, -1}, {-1, 0, 0}}},
		{matrix(2, 1, 0, 0, 0, 2, 0, 0, 0, 2), api.Interval{Low: -2, High: -1}, [][3]int{{-2, -2, -2}, {-2, -2, -1}, {-2, -1, -2}, {-2, -1, -1}}},
	} {
		want(t, x, results(colour.Lost(x.m, x.cube)), x.lost, api.OK)
	}
	all, e := colour.Lost(colour.Matrix{Den: 1}, api.Interval{Low: 1, High: 6})
	want(t, "the greatest cube", results(len(all), all[0], all[1], all[6], all[36], all[215], e), 216, [3]int{1, 1, 1}, [3]int{1, 1, 2}, [3]int{1, 2, 1}, [3]int{2, 1, 1}, [3]int{6, 6, 6}, api.OK)
}

// P2.2: the errors of the arguments, from left to right, and those named with them.
func TestErrorsOfMatrices(t *testing.T) {
	cubes := append(intervals(), given[api.Interval]{api.Interval{Low: 0, High: 6}, api.ErrLimit}, given[api.Interval]{api.Interval{Low: -16384, High: 16384}, api.ErrLimit})
	for _, m := range matrices() {
		wantError(t, m.v, results(colour.Determinant(m.v)), m.e, 0)
		for _, c := range colours() {
			wantError(t, results(m.v, c.v), results(colour.Converted(m.v, c.v)), firstError(m.e, c.e), [3]int{})
		}
		for _, cube := range cubes {
			wantError(t, results(m.v, cube.v), results(colour.Lost(m.v, cube.v)), firstError(m.e, cube.e), [][3]int(nil))
		}
		for _, other := range matrices() {
			wantError(t, results(m.v, other.v), results(colour.Composed(m.v, other.v)), firstError(m.e, other.e), colour.Matrix{})
		}
		if m.e != api.OK {
			want(t, m.v, results(colour.Inverted(m.v)), [3][3]api.Ratio{}, m.e)
		}
	}
	// the numbers on the way do not matter
	want(t, "a sum on the way", results(colour.Converted(matrix(1, 4096, -4096, 0, 0, 0, 0, 0, 0, 0), [3]int{16384, 16384, 0})), [3]int{}, api.OK)
	want(t, "no numbers", results(colour.Converted(colour.Matrix{Rows: [3][3]int{{math.MinInt}}, Den: math.MinInt}, [3]int{math.MinInt})), [3]int{}, api.ErrRange)
}
