package composite_test

import (
	"testing"

	"genlock/api"
	"genlock/composite"
)

// P3.1
func TestChecks(t *testing.T) {
	for _, x := range signals() {
		want(t, x.v, results(composite.CheckSignal(x.v)), x.e)
	}
	for _, x := range partses() {
		want(t, x.v, results(composite.CheckParts(x.v)), x.e)
	}
	for _, x := range fields() {
		want(t, x.v, results(composite.CheckField(x.v)), x.e)
	}
}

// P3.1
func TestEncoded(t *testing.T) {
	even, odd := []float32{13, 18, 7, 22}, []float32{7, 22, 13, 18}
	for line, signal := range map[int][]float32{0: even, 1: odd, 2: even, 31: odd, 32: even, 9999999: odd, 10000000: even} {
		want(t, line, results(composite.Encoded(partsP(), line)), signal, api.OK)
	}
	two := composite.Parts{Luma: samples(1, 2, 3, 4, 50, 60, 70, 80), U: samples(100, -1000), V: samples(7, 0)}
	want(t, "two cycles", results(composite.Encoded(two, 0)), samples(101, 9, -97, -3, -950, 60, 1070, 80), api.OK)
	want(t, "two cycles", results(composite.Encoded(two, 1)), samples(-99, -5, 103, 11, 1050, 60, -930, 80), api.OK)
	want(t, "nothing", results(composite.Encoded(composite.Parts{}, 1)), []float32(nil), api.OK)
	zeros := composite.Parts{Luma: []float32{minus0, minus0, minus0, minus0}, U: []float32{minus0}, V: []float32{minus0}}
	want(t, "zeros", results(composite.Encoded(zeros, 1)), make([]float32, 4), api.OK)
}

// P3.1: a sum that is no sample.
func TestEncodedTooLarge(t *testing.T) {
	for _, x := range []struct {
		sample, luma, u, v int
		even, odd          api.Errno
	}{
		{0, 16384, 1, 0, api.ErrLarge, api.OK},
		{0, -16384, 1, 0, api.OK, api.ErrLarge},
		{0, 16383, 1, 0, api.OK, api.OK},
		{1, 16384, 0, 1, api.ErrLarge, api.OK},
		{1, -16384, 0, 1, api.OK, api.ErrLarge},
		{2, 16384, 1, 0, api.OK, api.ErrLarge},
		{2, -16384, 1, 0, api.ErrLarge, api.OK},
		{3, 16384, 0, 1, api.OK, api.ErrLarge},
		{3, -16384, 0, 1, api.ErrLarge, api.OK},
		{3, -1, 0, 16384, api.ErrLarge, api.OK},
		{3, 1, 0, 16384, api.OK, api.ErrLarge},
		{3, 16384, 16384, 0, api.OK, api.OK},
	} {
		p := silent(2)
		p.Luma[4+x.sample], p.U[1], p.V[1] = float32(x.luma)/16, float32(x.u)/16, float32(x.v)/16
		wantError(t, x, results(composite.Encoded(p, 0)), x.even, []float32(nil))
		wantError(t, x, results(composite.Encoded(p, 1)), x.odd, []float32(nil))
		wantError(t, x, results(composite.EncodedField([]composite.Parts{p})), x.even, [][]float32(nil))
		wantError(t, x, results(composite.EncodedField([]composite.Parts{silent(2), p})), x.odd, [][]float32(nil))
	}
}

// P3.1
func TestEncodedField(t *testing.T) {
	want(t, "two lines", results(composite.EncodedField([]composite.Parts{partsQ(), partsQ()})), [][]float32{{13, 18, 11, 22}, {7, 22, 17, 18}}, api.OK)
	want(t, "three lines", results(composite.EncodedField([]composite.Parts{partsP(), partsQ(), partsP()})), [][]float32{{13, 18, 7, 22}, {7, 22, 17, 18}, {13, 18, 7, 22}}, api.OK)
	want(t, "empty lines", results(composite.EncodedField(make([]composite.Parts, 2))), make([][]float32, 2), api.OK)
	want(t, "no line", results(composite.EncodedField(nil)), [][]float32(nil), api.OK)
	want(t, "32 lines", results(composite.EncodedField(make([]composite.Parts, 32))), make([][]float32, 32), api.OK)
	large := partsP()
	large.Luma[0] = 1024
	for _, x := range []given[[]composite.Parts]{
		{make([]composite.Parts, 33), api.ErrMany},
		{append(make([]composite.Parts, 32), silent(65)), api.ErrMany},
		{[]composite.Parts{partsP(), silent(2)}, api.ErrShape},
		{[]composite.Parts{partsP(), silent(0)}, api.ErrShape},
		{[]composite.Parts{{}, partsP()}, api.ErrShape},
		{[]composite.Parts{partsP(), silent(2), {U: []float32{nan}, V: []float32{nan}}}, api.ErrShape},
		{[]composite.Parts{partsP(), {Luma: []float32{1, 2, 3, nan}}, silent(2)}, api.ErrForm},
		{[]composite.Parts{large, silent(2)}, api.ErrShape},
		{[]composite.Parts{large, partsP()}, api.ErrLarge},
	} {
		wantError(t, x.v, results(composite.EncodedField(x.v)), x.e, [][]float32(nil))
	}
}

// P3.1
func TestPanels(t *testing.T) {
	want(t, "an even line", results(composite.Panels([]float32{13, 18, 7, 22})), [][4]complex64{{60, 6 + 4i, -20, 6 - 4i}}, api.OK)
	want(t, "an odd line", results(composite.Panels([]float32{7, 22, 13, 18})), [][4]complex64{{60, -6 - 4i, -20, -6 + 4i}}, api.OK)
	want(t, "sixteenths", results(composite.Panels(samples(1, 0, 0, 0, 0, 2, 0, 0))), [][4]complex64{{0.0625, 0.0625, 0.0625, 0.0625}, {0.125, -0.125i, -0.125, 0.125i}}, api.OK)
	want(t, "the greatest", results(composite.Panels([]float32{1024, -1024, 1024, -1024})), [][4]complex64{{0, 0, 4096, 0}}, api.OK)
	want(t, "nothing", results(composite.Panels(nil)), [][4]complex64(nil), api.OK)
}

// P3.1: the errors of the arguments, from left to right.
func TestErrorsOfEncoding(t *testing.T) {
	for _, p := range partses() {
		for _, line := range numbers(0, 10000000) {
			wantError(t, results(p.v, line.v), results(composite.Encoded(p.v, line.v)), firstError(p.e, line.e), []float32(nil))
		}
		wantError(t, p.v, results(composite.EncodedField([]composite.Parts{p.v, p.v})), p.e, [][]float32(nil))
	}
	for _, l := range signals() {
		wantError(t, l.v, results(composite.Panels(l.v)), l.e, [][4]complex64(nil))
	}
}
