package colour_test

import (
	"math"
	"testing"

	"genlock/api"
	"genlock/colour"
	"genlock/picture"
)

// P2.1
func TestCheckCurve(t *testing.T) {
	for _, c := range curves() {
		want(t, c.v, results(colour.CheckCurve(c.v)), c.e)
	}
}

// P2.1
func TestValue(t *testing.T) {
	falling := colour.Curve{{In: -10, Out: -3}, {In: 0, Out: 0}, {In: 7, Out: 1}, {In: 8, Out: 16384}}
	for _, x := range []struct {
		c     colour.Curve
		level int
		value int
	}{
		{curveC(), -16384, 0}, {curveC(), -5, 0}, {curveC(), 0, 0}, {curveC(), 1, 2}, {curveC(), 50, 100}, {curveC(), 99, 198},
		{curveC(), 100, 200}, {curveC(), 101, 201}, {curveC(), 102, 201}, {curveC(), 103, 202}, {curveC(), 200, 250}, {curveC(), 299, 300},
		{curveC(), 300, 300}, {curveC(), 400, 300}, {curveC(), 16384, 300},
		// below 0, too, the middle becomes the greater one: -1.5, -0.3
		{falling, -11, -3}, {falling, -10, -3}, {falling, -9, -3}, {falling, -8, -2}, {falling, -5, -1}, {falling, -2, -1}, {falling, -1, 0},
		{falling, 3, 0}, {falling, 4, 1}, {falling, 7, 1}, {falling, 8, 16384}, {falling, 9, 16384},
		{colour.Curve{{In: -16384, Out: -16384}, {In: 16384, Out: 16384}}, -7, -7},
		{colour.Curve{{In: -16384, Out: -1}, {In: 16384, Out: 0}}, -1, -1},
		{colour.Curve{{In: -16384, Out: -1}, {In: 16384, Out: 0}}, 0, 0},
		{colour.Curve{{In: -1, Out: -16384}, {In: 1, Out: 16383}}, 0, 0},
		{colour.Curve{{In: -1, Out: -16384}, {In: 2, Out: 16384}}, 1, 5461},
	} {
		want(t, x, results(colour.Value(x.c, x.level)), x.value, api.OK)
	}
}

// P2.1
func TestApplied(t *testing.T) {
	p := named("some", made(3, 3, -5, 0, 50, 101, 102, 200, 300, 400, 16384))
	q := named("some", made(3, 3, 0, 0, 100, 201, 201, 250, 300, 300, 300))
	want(t, "Applied", results(colour.Applied(curveC(), p)), q, api.OK)
	want(t, "Applied to -0", results(colour.Applied(curveC(), with(filled(1, 1, 0), 0, float32(math.Copysign(0, -1))))), filled(1, 1, 0), api.OK)
}

// P2.1
func TestInverse(t *testing.T) {
	want(t, "Inverse", results(colour.Inverse(curveC())), colour.Curve{{In: 0, Out: 0}, {In: 200, Out: 100}, {In: 300, Out: 300}}, api.OK)
	want(t, "Inverse of two points", results(colour.Inverse(colour.Curve{{In: -16384, Out: 7}, {In: -3, Out: 16384}})), colour.Curve{{In: 7, Out: -16384}, {In: 16384, Out: -3}}, api.OK)
}

// P2.1
func TestSurvives(t *testing.T) {
	for level, survives := range map[int]bool{-16384: false, -1: false, 0: true, 1: true, 50: true, 99: true, 100: true, 101: false, 102: true, 103: false, 104: true, 297: false, 298: true, 299: false, 300: true, 301: false, 16384: false} {
		want(t, level, results(colour.Survives(curveC(), level)), survives, api.OK)
	}
	whole := colour.Curve{{In: -16384, Out: -16384}, {In: 16384, Out: 16384}}
	want(t, "the least level", results(colour.Survives(whole, -16384)), true, api.OK)
	want(t, "the greatest level", results(colour.Survives(whole, 16384)), true, api.OK)
}

// P2.1
func TestKnee(t *testing.T) {
	for _, x := range []struct{ at, by, last int }{
		{16000, 4, 16096}, {16000, 1, 16384}, {16000, 64, 16006}, {16000, 3, 16128}, {16000, 5, 16077}, {0, 1, 16384}, {0, 64, 256}, {0, 3, 5462}, {16383, 1, 16384}, {16383, 64, 16384}, {16381, 2, 16383}, {16320, 64, 16321}, {16319, 64, 16321},
	} {
		knee := colour.Curve{{In: -16384, Out: -16384}, {In: x.at, Out: x.at}, {In: 16384, Out: x.last}}
		want(t, x, results(colour.Knee(x.at, x.by)), knee, api.OK)
	}
	knee, _ := colour.Knee(16000, 4)
	want(t, "the value of a knee", results(colour.Value(knee, 16100)), 16025, api.OK)
	for _, at := range numbers(0, 16383) {
		for _, by := range numbers(1, 64) {
			wantError(t, results(at.v, by.v), results(colour.Knee(at.v, by.v)), firstError(at.e, by.e), colour.Curve(nil))
		}
	}
}

// P2.1: the errors of the arguments, from left to right.
func TestErrorsOfCurves(t *testing.T) {
	for _, c := range curves() {
		wantError(t, c.v, results(colour.Inverse(c.v)), c.e, colour.Curve(nil))
		for _, level := range levels() {
			e := firstError(c.e, level.e)
			wantError(t, results(c.v, level.v), results(colour.Value(c.v, level.v)), e, 0)
			wantError(t, results(c.v, level.v), results(colour.Survives(c.v, level.v)), e, false)
		}
		for _, p := range pictures() {
			wantError(t, results(c.v, p.v), results(colour.Applied(c.v, p.v)), firstError(c.e, p.e), picture.Picture{})
		}
	}
}
