package mixer_test

import (
	"slices"
	"testing"

	"genlock/api"
	"genlock/mixer"
	"genlock/picture"
)

// withLevels returns the picture with other levels.
func withLevels(p picture.Picture, levels ...int) picture.Picture {
	p.Samples = samples(levels...)
	return p
}

// P6.3
func TestMixed(t *testing.T) {
	for _, x := range []struct {
		a, b   picture.Picture
		key    []int
		levels []int
	}{
		{pictureP(), pictureQ(), []int{64, 128}, []int{192, 64}},
		{named("x", row(-63, 0)), row(0, -63), []int{128, 128}, []int{-31, -31}},
		{row(63, 0), row(0, 63), []int{128, 128}, []int{32, 32}},
		{row(1, 1, 1, 1), row(0, 0, 0, 0), []int{0, 128, 129, 256}, []int{1, 1, 0, 0}},
		{row(-1, -1, -1, -1), row(0, 0, 0, 0), []int{0, 127, 128, 256}, []int{-1, -1, 0, 0}},
		{row(16384, -16384, 16384), row(16384, -16384, -16384), []int{77, 77, 128}, []int{16384, -16384, 0}},
		{made(1, 2, -16384, 16384), named("y", made(1, 2, 16384, -16384)), []int{1, 255}, []int{-16256, -16256}},
		{with(row(0, 5), 0, minus0), row(0, 7), []int{0, 256}, []int{0, 7}},
	} {
		want(t, x, results(mixer.Mixed(x.a, x.b, x.key)), withLevels(x.a, x.levels...), api.OK)
	}
	d := dice(6)
	for range 300 {
		width, height, most := 1+d.below(9), 1+d.below(9), []int{3, 16384}[d.below(2)]
		a, b := named("a", d.picture(width, height, -most, most)), named("b", d.picture(width, height, -most, most))
		key := d.key(width * height)
		var levels []int
		for i, level := range levelsOf(a) {
			levels = append(levels, mixOf(level, levelsOf(b)[i], key[i]))
		}
		want(t, results(a, b, key), results(mixer.Mixed(a, b, key)), withLevels(a, levels...), api.OK)
	}
}

// P6.3
func TestPremultiplied(t *testing.T) {
	for _, x := range []struct {
		p      picture.Picture
		key    []int
		levels []int
	}{
		{pictureP(), []int{128, 128}, []int{128, 0}},
		{named("x", row(16384, 16384, 16384)), []int{0, 1, 256}, []int{0, 64, 16384}},
		{row(1, 1, 1, 1), []int{0, 127, 128, 256}, []int{0, 0, 1, 1}},
		{row(-1, -1, -1, -1), []int{0, 128, 129, 256}, []int{0, 0, -1, -1}},
		{made(1, 2, -16384, 3), []int{255, 128}, []int{-16320, 2}},
	} {
		want(t, x, results(mixer.Premultiplied(x.p, x.key)), withLevels(x.p, x.levels...), api.OK)
	}
	d := dice(7)
	for range 300 {
		p := d.picture(1+d.below(9), 1+d.below(9), -16384, 16384)
		key := d.key(len(p.Samples))
		var levels []int
		for i, level := range levelsOf(p) {
			levels = append(levels, rounded(level*key[i], 256))
		}
		want(t, results(p, key), results(mixer.Premultiplied(p, key)), withLevels(p, levels...), api.OK)
	}
}

// P6.3
func TestCheckFill(t *testing.T) {
	for share := range 257 {
		most := 64 * share
		want(t, share, results(mixer.CheckFill(row(0, most), []int{share, share})), api.OK)
		want(t, share, results(mixer.CheckFill(row(0, -1), []int{share, share})), api.ErrRule)
		if share < 256 {
			want(t, share, results(mixer.CheckFill(row(most+1, 0), []int{share, share})), api.ErrRule)
		}
	}
	for _, x := range []struct {
		p   picture.Picture
		key []int
		e   api.Errno
	}{
		{row(0, 0, 0), []int{0, 0, 0}, api.OK},
		{row(1, 0, 0), []int{0, 256, 256}, api.ErrRule},
		{row(0, 1, 0), []int{256, 0, 256}, api.ErrRule},
		{row(0, 0, 1), []int{256, 256, 0}, api.ErrRule},
		{row(64, 128, 16384), []int{1, 2, 256}, api.OK},
		{row(64, 129, 16384), []int{1, 2, 256}, api.ErrRule},
		{row(-16384, 0, 0), []int{256, 256, 256}, api.ErrRule},
		{with(row(5, 0), 1, minus0), []int{1, 0}, api.OK},
	} {
		want(t, x, results(mixer.CheckFill(x.p, x.key)), x.e)
	}
}

// P6.3
func TestOver(t *testing.T) {
	for _, x := range []struct {
		fill, back picture.Picture
		key        []int
		levels     []int
	}{
		{row(128, 0), pictureQ(), []int{128, 128}, []int{128, 64}},
		{named("x", row(0, 0, 0)), row(3, 3, -3), []int{128, 256, 128}, []int{2, 0, -1}},
		{row(5, 5, 5), row(1, 1, 1), []int{128, 129, 0}, []int{6, 5, 6}},
		{row(16384, -16384), row(16384, -16384), []int{256, 256}, []int{16384, -16384}},
		{row(8192, 16320), row(16384, 16384), []int{128, 255}, []int{16384, 16384}},
		{row(-16384, 16384), row(16384, -16384), []int{0, 0}, []int{0, 0}},
		{made(1, 2, -7, 7), named("y", made(1, 2, 20, 20)), []int{0, 64}, []int{13, 22}}, // no premultiplied fill
	} {
		want(t, x, results(mixer.Over(x.fill, x.back, x.key)), withLevels(x.fill, x.levels...), api.OK)
	}
	d := dice(8)
	large := 0
	for range 1000 {
		width, height := 1+d.below(3), 1+d.below(3)
		fill, back := named("a", d.picture(width, height, -16384, 16384)), named("b", d.picture(width, height, -9000, 9000))
		key := d.key(width * height)
		var levels []int
		for i, level := range levelsOf(fill) {
			levels = append(levels, level+rounded(levelsOf(back)[i]*(256-key[i]), 256))
		}
		if slices.Max(levels) > 16384 || slices.Min(levels) < -16384 {
			large++
			want(t, results(fill, back, key), results(mixer.Over(fill, back, key)), picture.Picture{}, api.ErrLarge)
		} else {
			want(t, results(fill, back, key), results(mixer.Over(fill, back, key)), withLevels(fill, levels...), api.OK)
		}
	}
	if large < 100 || large > 900 {
		t.Errorf("%d of 1000", large)
	}
}

// P6.3: a level of a fill over a picture that is none.
func TestOverWithLargeLevels(t *testing.T) {
	for _, x := range []struct {
		fill, back int
		share      int
		e          api.Errno
	}{
		{16384, 1, 128, api.ErrLarge},
		{16384, 1, 129, api.OK},
		{16384, -1, 0, api.OK},
		{-16384, -1, 128, api.OK},
		{-16384, -1, 127, api.ErrLarge},
		{8193, 16384, 128, api.ErrLarge},
		{8192, 16384, 128, api.OK},
		{-8193, -16384, 128, api.ErrLarge},
		{16384, 16384, 0, api.ErrLarge},
	} {
		wantError(t, x, results(mixer.Over(row(0, x.fill), row(0, x.back), []int{0, x.share})), x.e, picture.Picture{})
	}
}

// P6.3: the errors of mixes.
func TestMixErrors(t *testing.T) {
	for _, p := range pairs() {
		for _, key := range keysFor() {
			e := firstError(p.e, key.e)
			wantError(t, results(p.v, key.v), results(mixer.Mixed(p.v[0], p.v[1], key.v)), e, picture.Picture{})
			wantError(t, results(p.v, key.v), results(mixer.Over(p.v[0], p.v[1], key.v)), e, picture.Picture{})
		}
	}
	for _, p := range pictures() {
		for _, key := range keysFor() {
			e := firstError(p.e, key.e)
			wantError(t, results(p.v, key.v), results(mixer.Premultiplied(p.v, key.v)), e, picture.Picture{})
			if e != api.OK {
				want(t, results(p.v, key.v), results(mixer.CheckFill(p.v, key.v)), e)
			}
		}
	}
	large := filled(3, 2, 16384)
	want(t, "a large level and a wrong key", results(mixer.Over(large, large, []int{0, 0, 0, 0, 0, 257})), picture.Picture{}, api.ErrRange)
	want(t, "a large level and a short key", results(mixer.Over(large, large, []int{0, 0})), picture.Picture{}, api.ErrShape)
	want(t, "no fill and a wrong key", results(mixer.CheckFill(filled(3, 2, -1), []int{257, 0, 0, 0, 0, 0})), api.ErrRange)
	want(t, "no fill and a short key", results(mixer.CheckFill(filled(3, 2, -1), []int{0})), api.ErrShape)
}
