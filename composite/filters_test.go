package composite_test

import (
	"math/big"
	"slices"
	"testing"

	"genlock/api"
	"genlock/composite"
)

// P3.4
func TestCheckTaps(t *testing.T) {
	for _, x := range tapses() {
		want(t, x.v, results(composite.CheckTaps(x.v)), x.e)
	}
	want(t, "the greatest", results(composite.CheckTaps([]int{-1000, 1000})), api.OK)
}

// P3.4
func TestResponse(t *testing.T) {
	for _, x := range []struct {
		taps     []int
		response [4]complex128
	}{
		{[]int{1, 0, -1}, [4]complex128{0, 2, 0, 2}},
		{[]int{7}, [4]complex128{7, 7, 7, 7}},
		{[]int{0}, [4]complex128{}},
		{[]int{0, 1}, [4]complex128{1, -1i, -1, 1i}},
		{[]int{0, 0, 1}, [4]complex128{1, -1, 1, -1}},
		{[]int{0, 0, 0, 1}, [4]complex128{1, 1i, -1, -1i}},
		{[]int{1, 2, 3, 4}, [4]complex128{10, -2 + 2i, -2, -2 - 2i}},
		{[]int{1, 2, 3, 4, 10, 20, 30, 40}, [4]complex128{110, -22 + 22i, -22, -22 - 22i}},
		{slices.Repeat([]int{-1000}, 8), [4]complex128{-8000, 0, 0, 0}},
		{[]int{1000, -1000, 1000, -1000, 1000, -1000, 1000, -1000}, [4]complex128{0, 0, 8000, 0}},
	} {
		want(t, x, results(composite.Response(x.taps)), x.response, api.OK)
	}
}

// P3.4
func TestFilteredAndBack(t *testing.T) {
	for _, x := range []struct {
		signal, taps, filtered, back []int
	}{
		{[]int{16, 32, 64, 128}, []int{1, 0, -1}, []int{16, 32, 48, 96}, []int{-48, -96, 64, 128}},
		{[]int{1, 2, 3, 4}, []int{5}, []int{5, 10, 15, 20}, []int{5, 10, 15, 20}},
		{[]int{1, 2, 3, 4}, []int{0, 1}, []int{0, 1, 2, 3}, []int{2, 3, 4, 0}},
		{[]int{1, 2, 3, 4}, []int{0, 0, 0, 0, 1, 2, 3, 4}, []int{0, 0, 0, 0}, []int{0, 0, 0, 0}},
		{[]int{1, 2, 3, 4}, []int{1, 10, 100, 1000}, []int{1, 12, 123, 1234}, []int{4321, 432, 43, 4}},
		{[]int{1, 0, 0, 0, 0, 0, 0, 2}, []int{1, 2, 3, 4, 5, 6, 7, 8}, []int{1, 2, 3, 4, 5, 6, 7, 10}, []int{17, 14, 12, 10, 8, 6, 4, 2}},
		{[]int{0, 0, 0, 0}, []int{1000, -1000}, []int{0, 0, 0, 0}, []int{0, 0, 0, 0}},
		{nil, []int{1000}, nil, nil},
		{[]int{16384, 16384, 16384, 16384}, []int{-1}, []int{-16384, -16384, -16384, -16384}, []int{-16384, -16384, -16384, -16384}},
		{[]int{16384, 16384, 16384, 16384}, []int{1, -1, 1, -1, 1, -1, 1, -1}, []int{16384, 0, 16384, 0}, []int{0, 16384, 0, 16384}},
	} {
		want(t, x, results(composite.Filtered(samples(x.signal...), x.taps)), samples(x.filtered...), api.OK)
		want(t, x, results(composite.Back(samples(x.signal...), x.taps)), samples(x.back...), api.OK)
		// a field with one sample in each line, put into lines of four
		var field, filtered, back [][]float32
		for i, n := range x.signal {
			field = append(field, samples(0, n, 0, -n))
			filtered = append(filtered, samples(0, x.filtered[i], 0, -x.filtered[i]))
			back = append(back, samples(0, x.back[i], 0, -x.back[i]))
		}
		want(t, x, results(composite.Combed(field, x.taps)), filtered, api.OK)
		want(t, x, results(composite.Uncombed(field, x.taps)), back, api.OK)
	}
}

// P3.4: what is no sample at the beginning, or at the end.
func TestFilteredTooLarge(t *testing.T) {
	for _, x := range []struct {
		signal, taps   []int
		filtered, back api.Errno
	}{
		{[]int{8192, 0, 0, 0}, []int{2}, api.OK, api.OK},
		{[]int{8193, 0, 0, 0}, []int{2}, api.ErrLarge, api.ErrLarge},
		{[]int{0, 0, 0, -8193}, []int{2}, api.ErrLarge, api.ErrLarge},
		{[]int{8193, 0, 0, 0}, []int{0, 2}, api.ErrLarge, api.OK},
		{[]int{0, 0, 0, 8193}, []int{0, 2}, api.OK, api.ErrLarge},
		{[]int{17, 0, 0, 0}, []int{0, 0, 0, -1000}, api.ErrLarge, api.OK},
		{[]int{0, 0, 0, 17}, []int{0, 0, 0, -1000}, api.OK, api.ErrLarge},
		{[]int{16, 0, 0, 16}, []int{0, 0, 0, -1000}, api.OK, api.OK},
		{[]int{10000, 10000, 0, 0}, []int{1, 1}, api.ErrLarge, api.ErrLarge},
		{[]int{10000, -10000, 0, 0}, []int{1, 1}, api.OK, api.OK},
		{[]int{10000, 10000, 0, 0}, []int{2, -2, 1}, api.ErrLarge, api.ErrLarge},
		{[]int{16384, 16384, 16384, 16384}, slices.Repeat([]int{1000}, 8), api.ErrLarge, api.ErrLarge},
	} {
		wantError(t, x, results(composite.Filtered(samples(x.signal...), x.taps)), x.filtered, []float32(nil))
		wantError(t, x, results(composite.Back(samples(x.signal...), x.taps)), x.back, []float32(nil))
		var field [][]float32
		for _, n := range x.signal {
			field = append(field, samples(0, 0, 0, n))
		}
		wantError(t, x, results(composite.Combed(field, x.taps)), x.filtered, [][]float32(nil))
		wantError(t, x, results(composite.Uncombed(field, x.taps)), x.back, [][]float32(nil))
	}
}

// P3.4
func TestCombedAndUncombed(t *testing.T) {
	field := [][]float32{samples(1, 2, 3, 4), samples(10, 20, 30, 40), samples(100, 200, 300, 400)}
	want(t, "lines before", results(composite.Combed(field, []int{2, 0, -1})), [][]float32{samples(2, 4, 6, 8), samples(20, 40, 60, 80), samples(199, 398, 597, 796)}, api.OK)
	want(t, "lines behind", results(composite.Uncombed(field, []int{2, 0, -1})), [][]float32{samples(-98, -196, -294, -392), samples(20, 40, 60, 80), samples(200, 400, 600, 800)}, api.OK)
	want(t, "one line", results(composite.Combed(field[:1], []int{-3, 9})), [][]float32{samples(-3, -6, -9, -12)}, api.OK)
	want(t, "one line", results(composite.Uncombed(field[:1], []int{-3, 9})), [][]float32{samples(-3, -6, -9, -12)}, api.OK)
	for _, f := range []func([][]float32, []int) ([][]float32, api.Errno){composite.Combed, composite.Uncombed} {
		want(t, "no line", results(f(nil, []int{1})), [][]float32(nil), api.OK)
		want(t, "empty lines", results(f(make([][]float32, 3), []int{1, 1})), make([][]float32, 3), api.OK)
		want(t, "zeros", results(f([][]float32{{minus0, 0, 0, minus0}}, []int{-1})), [][]float32{make([]float32, 4)}, api.OK)
	}
}

// sums returns what a filter, or its adjoint (with the step 1), makes of integers by its definition.
func sums(l, taps []int, step int) []int {
	sum := make([]int, len(l))
	for n := range l {
		for j, tap := range taps {
			if at := n + step*j; at >= 0 && at < len(l) {
				sum[n] += tap * l[at]
			}
		}
	}
	return sum
}

// P3.4: filters by their definitions.
func TestFiltersByDefinition(t *testing.T) {
	d := dice(2)
	for range 200 {
		taps := d.levels(1+d.below(8), 12)
		l := d.levels(4*d.below(10), 100)
		want(t, results(l, taps), results(composite.Filtered(samples(l...), taps)), samples(sums(l, taps, -1)...), api.OK)
		want(t, results(l, taps), results(composite.Back(samples(l...), taps)), samples(sums(l, taps, 1)...), api.OK)
		lines, cycles := d.below(12), d.below(4)
		field := d.field(lines, cycles, 100)
		combed, e1 := composite.Combed(field, taps)
		uncombed, e2 := composite.Uncombed(field, taps)
		want(t, taps, results(len(combed), e1, len(uncombed), e2), lines, api.OK, lines, api.OK)
		for x := range 4 * cycles {
			var column, before, behind []int
			for k := range field {
				column, before, behind = append(column, int(16*field[k][x])), append(before, int(16*combed[k][x])), append(behind, int(16*uncombed[k][x]))
			}
			want(t, results(column, taps), results(before, behind), sums(column, taps, -1), sums(column, taps, 1))
		}
	}
}

// product returns the sum of the products of two signals.
func product(a, b []float32) *big.Int {
	sum := new(big.Int)
	for i, x := range a {
		sum.Add(sum, big.NewInt(int64(16*x)*int64(16*b[i])))
	}
	return sum
}

// P3.6: the product of a filtered signal with another one is that of the signal with the other one filtered by the adjoint.
func TestAdjoints(t *testing.T) {
	d, signal, field := dice(3), must[[]float32](t), must[[][]float32](t)
	for range 200 {
		taps := d.levels(1+d.below(8), 20)
		cycles := d.below(9)
		a, b := d.signal(cycles, 100), d.signal(cycles, 100)
		want(t, results(a, b, taps), results(product(signal(composite.Filtered(a, taps)), b)), product(a, signal(composite.Back(b, taps))))
		lines := d.below(12)
		f, g := d.field(lines, cycles, 100), d.field(lines, cycles, 100)
		combed, uncombed := field(composite.Combed(f, taps)), field(composite.Uncombed(g, taps))
		want(t, results(f, g, taps), results(product(slices.Concat(combed...), slices.Concat(g...))), product(slices.Concat(f...), slices.Concat(uncombed...)))
	}
}

// P3.6: a filter changes the panels of a signal that repeats its cycles by its response.
func TestResponsesChangePanels(t *testing.T) {
	d := dice(4)
	for range 200 {
		taps := d.levels(1+d.below(8), 20)
		l := slices.Repeat(d.signal(1, 100), 5)
		response := must[[4]complex128](t)(composite.Response(taps))
		filtered := must[[]float32](t)(composite.Filtered(l, taps))
		panels := must[[][4]complex64](t)(composite.Panels(l))
		for c, panel := range must[[][4]complex64](t)(composite.Panels(filtered)) {
			for k, z := range panel {
				if changed := complex64(complex128(panels[c][k]) * response[k]); c >= 2 && z != changed { // the first two cycles lack what was before
					t.Errorf("%v by %v: the panel of the cycle %d is %v at %d, not %v", l[:4], taps, c, z, k, changed)
				}
			}
		}
	}
}

// P3.4: the errors of the arguments, from left to right.
func TestErrorsOfFilters(t *testing.T) {
	for _, taps := range tapses() {
		wantError(t, taps.v, results(composite.Response(taps.v)), taps.e, [4]complex128{})
		for _, l := range signals() {
			wantError(t, results(l.v, taps.v), results(composite.Filtered(l.v, taps.v)), firstError(l.e, taps.e), []float32(nil))
			wantError(t, results(l.v, taps.v), results(composite.Back(l.v, taps.v)), firstError(l.e, taps.e), []float32(nil))
		}
		for _, l := range fields() {
			wantError(t, results(l.v, taps.v), results(composite.Combed(l.v, taps.v)), firstError(l.e, taps.e), [][]float32(nil))
			wantError(t, results(l.v, taps.v), results(composite.Uncombed(l.v, taps.v)), firstError(l.e, taps.e), [][]float32(nil))
		}
	}
}
