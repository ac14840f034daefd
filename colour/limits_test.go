package colour_test

import (
	"slices"
	"testing"

	"genlock/api"
	"genlock/colour"
	"genlock/picture"
)

// P2.3
func TestLegal(t *testing.T) {
	sum := colour.Plane{Normal: [3]int{1, 1, 1}, Most: 10}
	least := colour.Plane{Normal: [3]int{0, -2, 0}, Most: -8}
	for _, x := range []struct {
		g      []colour.Plane
		colour [3]int
		legal  bool
	}{
		{[]colour.Plane{sum}, [3]int{3, 4, 3}, true},
		{[]colour.Plane{sum}, [3]int{3, 4, 4}, false},
		{[]colour.Plane{sum}, [3]int{-16384, 16384, 10}, true},
		{nil, [3]int{16384, 16384, 16384}, true},
		{[]colour.Plane{sum, least}, [3]int{3, 4, 3}, true},
		{[]colour.Plane{sum, least}, [3]int{3, 3, 3}, false},
		{[]colour.Plane{least, sum}, [3]int{3, 4, 4}, false},
		{[]colour.Plane{{Most: -1}}, [3]int{}, false},
		{[]colour.Plane{{Normal: [3]int{4096, 4096, 4096}, Most: 201326592}}, [3]int{16384, 16384, 16384}, true},
		{[]colour.Plane{{Normal: [3]int{4096, 4096, 4096}, Most: 201326591}}, [3]int{16384, 16384, 16384}, false},
		{[]colour.Plane{{Normal: [3]int{4096, -4096, 4096}, Most: -201326592}}, [3]int{-16384, 16384, -16384}, true},
		{append(make([]colour.Plane, 15), sum), [3]int{3, 4, 4}, false},
	} {
		want(t, x, results(colour.Legal(x.g, x.colour)), x.legal, api.OK)
	}
}

// P2.3
func TestViolations(t *testing.T) {
	p := [3]picture.Picture{made(2, 2, 3, 3, 9, 0), made(2, 2, 4, 4, 9, 3), made(2, 2, 3, 4, 9, 0)}
	sum := colour.Plane{Normal: [3]int{1, 1, 1}, Most: 10}
	least := colour.Plane{Normal: [3]int{0, -1, 0}, Most: -4}
	most := colour.Plane{Normal: [3]int{0, 1, 0}, Most: 8}
	for _, x := range []struct {
		g []colour.Plane
		l []colour.Violation
	}{
		{nil, nil},
		{[]colour.Plane{sum}, []colour.Violation{{Place: 1, Plane: 0}, {Place: 2, Plane: 0}}},
		{[]colour.Plane{least, sum, most}, []colour.Violation{{Place: 1, Plane: 1}, {Place: 2, Plane: 1}, {Place: 3, Plane: 0}}},
		{[]colour.Plane{most, least, sum}, []colour.Violation{{Place: 1, Plane: 2}, {Place: 2, Plane: 0}, {Place: 3, Plane: 1}}},
		{[]colour.Plane{{Normal: [3]int{1, 2, 4}, Most: 1000}}, nil},
		{[]colour.Plane{{Most: -1}, most}, []colour.Violation{{Place: 0}, {Place: 1}, {Place: 2}, {Place: 3}}},
		{append(make([]colour.Plane, 15), most), []colour.Violation{{Place: 2, Plane: 15}}},
		// each picture has its own number of a plane
		{[]colour.Plane{{Normal: [3]int{100, 10, 1}, Most: 343}}, []colour.Violation{{Place: 1}, {Place: 2}}},
	} {
		want(t, x, results(colour.Violations(x.g, p)), x.l, api.OK)
	}
}

// P2.3
func TestClipped(t *testing.T) {
	p := named("some", made(4, 2, -16384, -6, -5, -4, 6, 7, 8, 16384))
	for _, x := range []struct {
		limits api.Interval
		q      picture.Picture
	}{
		{api.Interval{Low: -5, High: 7}, named("some", made(4, 2, -5, -5, -5, -4, 6, 7, 7, 7))},
		{api.Interval{Low: 7, High: 7}, named("some", filled(4, 2, 7))},
		{api.Interval{Low: -16384, High: 16384}, p},
		{api.Interval{Low: -16384, High: -16384}, named("some", filled(4, 2, -16384))},
		{api.Interval{Low: 16384, High: 16384}, named("some", filled(4, 2, 16384))},
	} {
		want(t, x.limits, results(colour.Clipped(p, x.limits)), x.q, api.OK)
	}
}

// P2.3
func TestLuma(t *testing.T) {
	p := [3]picture.Picture{named("a", made(2, 2, 10, 16384, -16384, 1)), named("b", made(2, 2, 20, 16384, -16384, -1)), named("c", made(2, 2, 30, 16384, -16384, 0))}
	for _, x := range []struct {
		weights [3]int
		luma    []int
	}{
		{[3]int{64, 128, 64}, []int{20, 16384, -16384, 0}},
		{[3]int{256, 0, 0}, []int{10, 16384, -16384, 1}},
		{[3]int{0, 256, 0}, []int{20, 16384, -16384, -1}},
		{[3]int{0, 0, 256}, []int{30, 16384, -16384, 0}},
		{[3]int{128, 0, 128}, []int{20, 16384, -16384, 1}}, // a half is rounded up
		{[3]int{0, 128, 128}, []int{25, 16384, -16384, 0}}, // and so is the half below 0
		{[3]int{127, 129, 0}, []int{15, 16384, -16384, 0}},
		{[3]int{0, 129, 127}, []int{25, 16384, -16384, -1}},
		{[3]int{241, 10, 5}, []int{11, 16384, -16384, 1}},
	} {
		want(t, x.weights, results(colour.Luma(p, x.weights)), named("a", made(2, 2, x.luma...)), api.OK)
	}
}

// P2.3
func TestShaded(t *testing.T) {
	for _, x := range []struct {
		p             picture.Picture
		columns, rows []int
		q             picture.Picture
	}{
		{named("some", made(2, 1, 16, 16)), []int{256, 128}, []int{128}, named("some", made(2, 1, 8, 4))},
		{made(3, 2, 100, 100, 100, 100, 100, 100), []int{0, 1, 512}, []int{256, 512}, made(3, 2, 0, 0, 200, 0, 1, 400)},
		{made(2, 3, 10, 20, 30, 40, 50, 60), []int{256, 512}, []int{256, 0, 64}, made(2, 3, 10, 40, 0, 0, 13, 30)},
		{made(2, 1, 1, -1), []int{128, 128}, []int{256}, made(2, 1, 1, 0)},
		{made(2, 1, 3, -3), []int{128, 128}, []int{256}, made(2, 1, 2, -1)},
		{made(2, 1, 1, 1), []int{255, 256}, []int{128}, made(2, 1, 0, 1)},
		{made(1, 1, 4096), []int{512}, []int{512}, made(1, 1, 16384)},
		{made(1, 1, -4096), []int{512}, []int{512}, made(1, 1, -16384)},
		{made(1, 1, 16384), []int{0}, []int{512}, made(1, 1, 0)},
		{made(1, 1, -8193), []int{512}, []int{255}, made(1, 1, -16322)},
		// 16384.47 and -16384.5 are rounded to levels
		{made(1, 1, 4228), []int{511}, []int{497}, made(1, 1, 16384)},
		{made(1, 1, -5296), []int{396}, []int{512}, made(1, 1, -16384)},
	} {
		want(t, x, results(colour.Shaded(x.p, x.columns, x.rows)), x.q, api.OK)
	}
	for _, p := range []picture.Picture{made(2, 1, 0, 4097), made(2, 1, 0, -4097), made(2, 1, 16384, 16384)} {
		want(t, p, results(colour.Shaded(p, []int{256, 512}, []int{512})), picture.Picture{}, api.ErrLarge)
	}
	want(t, "16384.5", results(colour.Shaded(made(1, 1, 5296), []int{396}, []int{512})), picture.Picture{}, api.ErrLarge)
	want(t, "all of it", results(colour.Shaded(filled(64, 64, 16384), slices.Repeat([]int{512}, 64), slices.Repeat([]int{128}, 64))), filled(64, 64, 16384), api.OK)
}

// P2.3: the errors of the arguments, from left to right, and those named with them.
func TestErrorsOfLimits(t *testing.T) {
	weights := []given[[3]int]{
		{[3]int{64, 128, 64}, api.OK}, {[3]int{256, 0, 0}, api.OK},
		{[3]int{-1, 128, 129}, api.ErrRange}, {[3]int{128, -1, 129}, api.ErrRange}, {[3]int{256, 1, -1}, api.ErrRange}, {[3]int{-1, 257, 0}, api.ErrRange}, {[3]int{0, -1, 257}, api.ErrRange}, {[3]int{257, 0, -1}, api.ErrRange}, {[3]int{0, 0, 257}, api.ErrRange}, {[3]int{300, 0, 0}, api.ErrRange},
		{[3]int{64, 128, 63}, api.ErrForm}, {[3]int{64, 129, 64}, api.ErrForm}, {[3]int{}, api.ErrForm}, {[3]int{256, 256, 256}, api.ErrForm},
	}
	for _, g := range gamuts() {
		for _, c := range colours() {
			wantError(t, results(g.v, c.v), results(colour.Legal(g.v, c.v)), firstError(g.e, c.e), false)
		}
		for _, p := range triples() {
			wantError(t, results(g.v, p.v), results(colour.Violations(g.v, p.v)), firstError(g.e, p.e), []colour.Violation(nil))
		}
	}
	for _, p := range triples() {
		for _, w := range weights {
			wantError(t, results(p.v, w.v), results(colour.Luma(p.v, w.v)), firstError(p.e, w.e), picture.Picture{})
		}
	}
	for _, p := range pictures() {
		for _, limits := range intervals() {
			wantError(t, results(p.v, limits.v), results(colour.Clipped(p.v, limits.v)), firstError(p.e, limits.e), picture.Picture{})
		}
		for _, columns := range gains(3) {
			for _, rows := range gains(2) {
				wantError(t, results(p.v, columns.v, rows.v), results(colour.Shaded(p.v, columns.v, rows.v)), firstError(p.e, columns.e, rows.e), picture.Picture{})
			}
		}
	}
}
