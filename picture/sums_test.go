package picture_test

import (
	"math"
	"testing"

	"genlock/api"
	"genlock/picture"
)

// P1.3
func TestSum(t *testing.T) {
	p, e := picture.Sum(named("a", chapter()), named("b", made(3, 2, 1, 0, -3, 0.5, 0, 1018)))
	want(t, "Sum", []any{p, e}, []any{named("a", made(3, 2, 2, 2, 0, 4.5, 5, 1024)), api.OK})
	for _, x := range []struct{ a, b, sum float32 }{{0.0625, -0.0625, 0}, {minus0, minus0, 0}, {1023.9375, 0.0625, 1024}, {-1023.9375, -0.0625, -1024}, {1024, -1024, 0}, {512, 512, 1024}} {
		p, e := picture.Sum(filled(1, 1, x.a), filled(1, 1, x.b))
		want(t, x, []any{p, e}, []any{filled(1, 1, x.sum), api.OK})
	}
	for _, x := range []struct {
		a, b picture.Picture
		e    api.Errno
	}{
		{chapter(), made(2, 3, 1, 2, 3, 4, 5, 6), api.ErrShape}, {filled(2, 2, 1024), filled(2, 3, 1024), api.ErrShape}, {filled(2, 2, 1024), filled(3, 2, 1024), api.ErrShape},
		{filled(2, 2, 1024), filled(2, 2, 0.0625), api.ErrLarge}, {filled(2, 2, -1024), filled(2, 2, -0.0625), api.ErrLarge}, {filled(2, 2, 1024), filled(2, 2, 1024), api.ErrLarge},
		{made(3, 1, 1, 2, 512), made(3, 1, 1, 2, 512.0625), api.ErrLarge}, {made(3, 1, -1024, 2, 5), made(3, 1, -1, 2, 5), api.ErrLarge},
	} {
		p, e := picture.Sum(x.a, x.b)
		want(t, "Sum", []any{p, e}, []any{picture.Picture{}, x.e})
	}
}

// P1.3
func TestScaled(t *testing.T) {
	for _, x := range []struct {
		level, num, den int
		scaled          int
	}{
		{1, 1, 2, 1}, {-1, 1, 2, 0}, {3, 1, 2, 2}, {-3, 1, 2, -1}, {1, -1, 2, 0}, {-1, -1, 2, 1}, {1, 1, 3, 0}, {2, 1, 3, 1}, {-1, 1, 3, 0}, {-2, 1, 3, -1}, {5, 3, 10, 2}, {-5, 3, 10, -1},
		{16384, 1, 1, 16384}, {-16384, 1, 1, -16384}, {16384, -1, 1, -16384}, {-16384, -1000, 1000, 16384}, {16384, 1000, 1000, 16384}, {16384, 0, 1, 0}, {-16384, 0, 1000, 0}, {16384, 1, 1000, 16}, {16, 1000, 1, 16000}, {0, -1000, 1, 0},
		{3781, 13, 3, 16384}, {-3781, 13, 3, -16384}, {-3641, 9, 2, -16384}, {3641, -9, 2, -16384}, // 16384 and 1/3, and -16384 and a half
	} {
		p, e := picture.Scaled(named("s", filled(2, 1, float32(x.level)/16)), x.num, x.den)
		want(t, x, []any{p, e}, []any{named("s", filled(2, 1, float32(x.scaled)/16)), api.OK})
	}
	for _, x := range []struct {
		level, num, den int
		e               api.Errno
	}{
		{16, 1001, 1, api.ErrRange}, {16, -1001, 1, api.ErrRange}, {16, 1, 0, api.ErrRange}, {16, 1, -1, api.ErrRange}, {16, 1, 1001, api.ErrRange}, {16384, 1000, 0, api.ErrRange}, {16, math.MinInt, math.MaxInt, api.ErrRange}, {16, math.MaxInt, 1, api.ErrRange}, {16, 1, math.MinInt, api.ErrRange},
		{16384, 2, 1, api.ErrLarge}, {-16384, 2, 1, api.ErrLarge}, {16384, 1000, 999, api.ErrLarge}, {16384, -1000, 1, api.ErrLarge}, {3641, 9, 2, api.ErrLarge}, {-3511, 14, 3, api.ErrLarge}, {17, 964, 1, api.ErrLarge},
	} {
		p, e := picture.Scaled(made(2, 1, 0, float32(x.level)/16), x.num, x.den)
		want(t, x, []any{p, e}, []any{picture.Picture{}, x.e})
	}
}

// P1.3: twice the distance of a scaled level is less than the denominator, or equal to it below the level.
func TestScaledIsNearest(t *testing.T) {
	var row picture.Picture
	row.Name, row.Width, row.Height = "r", 41, 1
	for n := -20; n <= 20; n++ {
		row.Samples = append(row.Samples, float32(n)/16)
	}
	for den := 1; den <= 24; den++ {
		for num := -24; num <= 24; num++ {
			p, e := picture.Scaled(row, num, den)
			if e != api.OK || len(p.Samples) != 41 {
				t.Fatalf("Scaled by %d and %d: %v, %d", num, den, p, e)
			}
			for i, x := range p.Samples {
				if off := 2 * ((i-20)*num - int(16*x)*den); off < -den || off >= den {
					t.Errorf("level %d by %d and %d: got %v", i-20, num, den, x)
				}
			}
		}
	}
}

// P1.3
func TestEnergyPeakAndMean(t *testing.T) {
	for _, x := range []struct {
		p            picture.Picture
		energy, peak int
		mean         api.Ratio
	}{
		{chapter(), 23296, 96, api.Ratio{Num: 7, Den: 2}},
		{made(2, 1, -2, 0.0625), 1025, 32, api.Ratio{Num: -31, Den: 32}},
		{made(1, 1, 0), 0, 0, api.Ratio{Num: 0, Den: 1}},
		{made(1, 1, minus0), 0, 0, api.Ratio{Num: 0, Den: 1}},
		{made(2, 2, 5, -5, 1, -1), 13312, 80, api.Ratio{Num: 0, Den: 1}},
		{made(3, 1, 0.0625, 0, 0), 1, 1, api.Ratio{Num: 1, Den: 48}},
		{made(3, 1, -0.0625, 0, 0), 1, 1, api.Ratio{Num: -1, Den: 48}},
		{made(1, 2, 3, -7), 14848, 112, api.Ratio{Num: -2, Den: 1}},
		{filled(64, 64, -1024), 1099511627776, 16384, api.Ratio{Num: -1024, Den: 1}},
		{filled(64, 64, 1023.9375), 4096 * 16383 * 16383, 16383, api.Ratio{Num: 16383, Den: 16}},
	} {
		energy, e := picture.Energy(x.p)
		peak, f := picture.Peak(x.p)
		mean, g := picture.Mean(x.p)
		want(t, "Energy, Peak and Mean", []any{energy, e, peak, f, mean, g}, []any{x.energy, api.OK, x.peak, api.OK, x.mean, api.OK})
	}
	d := dice(3)
	for range 200 {
		p := d.picture(1+d.below(9), 1+d.below(9), 40)
		mean, e := picture.Mean(p)
		sum := 0
		for _, x := range p.Samples {
			sum += int(16 * x)
		}
		want(t, "the mean", []any{e, picture.CheckRatio(mean), mean.Num * 16 * len(p.Samples)}, []any{api.OK, api.OK, sum * mean.Den})
	}
}
