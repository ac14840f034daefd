package picture_test

import (
	"testing"

	"genlock/api"
	"genlock/picture"
)

// P1.4
func TestFour(t *testing.T) {
	for _, x := range []struct {
		l [4]float32
		p [4]complex64
	}{
		{[4]float32{1, 2, 3, 4}, [4]complex64{10, -2 + 2i, -2, -2 - 2i}},
		{[4]float32{}, [4]complex64{}},
		{[4]float32{1}, [4]complex64{1, 1, 1, 1}},
		{[4]float32{0, 1}, [4]complex64{1, -1i, -1, 1i}},
		{[4]float32{0, 0, 1}, [4]complex64{1, -1, 1, -1}},
		{[4]float32{0, 0, 0, 1}, [4]complex64{1, 1i, -1, -1i}},
		{[4]float32{1024, 1024, 1024, 1024}, [4]complex64{4096, 0, 0, 0}},
		{[4]float32{-1024, 1024, -1024, 1024}, [4]complex64{0, 0, -4096, 0}},
		{[4]float32{1024, -1024, -1024, 1024}, [4]complex64{0, 2048 + 2048i, 0, 2048 - 2048i}},
		{[4]float32{0.0625, -0.0625, 1023.9375, minus0}, [4]complex64{1023.9375, -1023.875 + 0.0625i, 1024.0625, -1023.875 - 0.0625i}},
	} {
		p, e := picture.Four(x.l)
		l, f := picture.Unfour(x.p)
		want(t, x.l, []any{p, e, l, f}, []any{x.p, api.OK, x.l, api.OK})
	}
	for _, x := range []struct {
		l [4]float32
		e api.Errno
	}{
		{[4]float32{0, 0, 0, 1025}, api.ErrRange}, {[4]float32{-1024.0625}, api.ErrRange}, {[4]float32{0, 0.03125}, api.ErrRange}, {[4]float32{0, 0, nan}, api.ErrForm}, {[4]float32{infinite}, api.ErrForm}, {[4]float32{0, -infinite}, api.ErrForm},
		{[4]float32{0, 0.01, nan}, api.ErrRange}, {[4]float32{nan, 0.01}, api.ErrForm},
	} {
		p, e := picture.Four(x.l)
		want(t, x.l, []any{p, e}, []any{[4]complex64{}, x.e})
	}
}

// P1.4: each number of a panel, both of its parts, and the order of both errors.
func TestUnfourNumbers(t *testing.T) {
	for k := range 4 {
		for _, x := range []struct {
			z complex64
			e api.Errno
		}{
			{complex(nan, 0), api.ErrForm}, {complex(0, nan), api.ErrForm}, {complex(infinite, 0), api.ErrForm}, {complex(0, -infinite), api.ErrForm}, {complex(5000, nan), api.ErrForm}, {complex(nan, 5000), api.ErrForm}, {complex(0.01, infinite), api.ErrForm},
			{4096.0625, api.ErrRange}, {-4096.0625, api.ErrRange}, {4096.0625i, api.ErrRange}, {-4096.0625i, api.ErrRange}, {0.03125, api.ErrRange}, {0.03125i, api.ErrRange}, {1 - 0.01i, api.ErrRange}, {complex(3e38, 0), api.ErrRange},
		} {
			var p [4]complex64
			p[k] = x.z
			l, e := picture.Unfour(p)
			want(t, []any{k, x.z}, []any{l, e}, []any{[4]float32{}, x.e})
			for later := k + 1; later < 4; later++ {
				p[later] = complex(nan, 5000)
				l, e := picture.Unfour(p)
				want(t, []any{k, x.z, "before another error"}, []any{l, e}, []any{[4]float32{}, x.e})
				p[later] = 5000
				l, e = picture.Unfour(p)
				want(t, []any{k, x.z, "before another error"}, []any{l, e}, []any{[4]float32{}, x.e})
			}
		}
	}
}

// P1.4
func TestUnfourOfNoTransform(t *testing.T) {
	for _, p := range [][4]complex64{
		{1i}, {0, 1}, {0, 1i}, {0, 0, 1i}, {0, 0, 0, 1}, {0, 1, 0, -1}, {0, 1i, 0, 1i}, {0, 1 + 1i, 0, 1 + 1i}, // a sample would not be real
		{0.0625}, {0.125}, {0, 0, 0.0625}, {0, 0.0625, 0, 0.0625}, {0.25, 0.0625i, 0, -0.0625i}, {10.0625, -2 + 2i, -2, -2 - 2i}, // a sample would be no multiple of 1/16
		{4096i}, {0, 4096}, {0, -4096i}, {0, 0, 4096i}, {0, 0, 0, -4096}, {4096 + 4096i}, {0, 4096i, 0, -4096i}, {0, -4096 - 4096i, 0, -4096 + 4096i}, // the parts are not too large, but the samples would be
		{4096, 4096, 4096, 4096}, {4096, 0.125, 0, 0.125}, {-4096, 0, -0.25, 0}, {4096, 0, 4, 0}, {0, 2048 + 2048i, 0.25, 2048 - 2048i}, // a sample would be too large
	} {
		l, e := picture.Unfour(p)
		want(t, p, []any{l, e}, []any{[4]float32{}, api.ErrForm})
	}
	for _, x := range []struct {
		p [4]complex64
		l [4]float32
	}{
		{[4]complex64{0.25}, [4]float32{0.0625, 0.0625, 0.0625, 0.0625}}, {[4]complex64{0.125, 0, 0.125}, [4]float32{0.0625, 0, 0.0625}}, {[4]complex64{0.125, 0.125i, -0.125, -0.125i}, [4]float32{0, 0, 0, 0.125}}, {[4]complex64{-4096}, [4]float32{-1024, -1024, -1024, -1024}},
		{[4]complex64{complex(minus0, minus0), 0, complex(0, minus0)}, [4]float32{}},
	} {
		l, e := picture.Unfour(x.p)
		want(t, x.p, []any{l, e}, []any{x.l, api.OK})
	}
}
