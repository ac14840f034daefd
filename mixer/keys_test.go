package mixer_test

import (
	"slices"
	"testing"

	"genlock/api"
	"genlock/mixer"
	"genlock/picture"
)

// P6.1
func TestCheckKey(t *testing.T) {
	for _, key := range keys() {
		want(t, key.v, results(mixer.CheckKey(key.v)), key.e)
	}
	for share := range 257 {
		want(t, share, results(mixer.CheckKey([]int{share}), mixer.CheckKey([]int{256, share, 0})), api.OK, api.OK)
	}
	want(t, "4096 shares", results(mixer.CheckKey(make([]int, 4096)), mixer.CheckKey(slices.Repeat([]int{256}, 4096))), api.OK, api.OK)
}

// P6.1
func TestLinear(t *testing.T) {
	for _, x := range []struct {
		p   picture.Picture
		s   mixer.Slope
		key []int
	}{
		{pictureP(), mixer.Slope{Clip: 64, Gain: 256}, []int{192, 0}},
		{pictureP(), mixer.Slope{Clip: 64, Gain: 512}, []int{256, 0}},
		{row(-1, 0, 1, 2, 3, 255, 256, 257), mixer.Slope{Clip: 0, Gain: 256}, []int{0, 0, 1, 2, 3, 255, 256, 256}},
		{row(-1, 0, 1, 2, 3, 4, 5, 6), mixer.Slope{Clip: 1, Gain: 128}, []int{0, 0, 0, 1, 1, 2, 2, 3}}, // a half is rounded to the greater one
		{row(0, 127, 128, 129, 383, 384), mixer.Slope{Clip: 0, Gain: 1}, []int{0, 0, 1, 1, 1, 2}},
		{row(-16384, 16384), mixer.Slope{Clip: -16384, Gain: 1}, []int{0, 128}},
		{row(-16384, 16384), mixer.Slope{Clip: -16384, Gain: 4096}, []int{0, 256}},
		{row(-16384, 16384), mixer.Slope{Clip: 16384, Gain: 4096}, []int{0, 0}},
		{row(100, 101, 115, 116), mixer.Slope{Clip: 100, Gain: 4096}, []int{0, 16, 240, 256}},
		{made(2, 3, 1, 2, 3, 4, 5, 6), mixer.Slope{Clip: 0, Gain: 256}, []int{1, 2, 3, 4, 5, 6}},
	} {
		want(t, x, results(mixer.Linear(x.p, x.s)), x.key, api.OK)
	}
	d := dice(1)
	for range 300 {
		s := d.slope()
		p := d.picture(1+d.below(64), 1+d.below(3), max(-16384, s.Clip-300), min(16384, s.Clip+300))
		var key []int
		for _, level := range levelsOf(p) {
			key = append(key, slopeShare(s, level))
		}
		want(t, results(p, s), results(mixer.Linear(p, s)), key, api.OK)
	}
	for _, p := range pictures() {
		for _, s := range slopes() {
			wantError(t, results(p.v, s.v), results(mixer.Linear(p.v, s.v)), firstError(p.e, s.e), []int(nil))
		}
	}
}

// P6.1
func TestChroma(t *testing.T) {
	for _, x := range []struct {
		b, r   picture.Picture
		colour [2]int
		s      mixer.Slope
		key    []int
	}{
		{pictureP(), pictureQ(), [2]int{200, 0}, mixer.Slope{Clip: 0, Gain: 256}, []int{56, 256}},
		{pictureP(), pictureQ(), [2]int{0, 200}, mixer.Slope{Clip: 0, Gain: 128}, []int{228, 36}},
		{row(-5, 5, -5, 5), row(-7, -7, 7, 7), [2]int{-5, 7}, mixer.Slope{Clip: 0, Gain: 256}, []int{14, 24, 0, 10}},
		{row(0, 1, 2), row(0, 0, 0), [2]int{0, 0}, mixer.Slope{Clip: 0, Gain: 128}, []int{0, 1, 1}},
		{row(0, 1, 2), row(0, 1, 2), [2]int{0, 0}, mixer.Slope{Clip: 3, Gain: 4096}, []int{0, 0, 16}},
		{row(-16384, 16384), row(16384, 16384), [2]int{16384, -16384}, mixer.Slope{Clip: 16384, Gain: 1}, []int{192, 64}},
		{row(5), row(5), [2]int{5, 5}, mixer.Slope{Clip: -16384, Gain: 4}, []int{256}},
	} {
		want(t, x, results(mixer.Chroma(x.b, x.r, x.colour, x.s)), x.key, api.OK)
	}
	d := dice(2)
	for range 300 {
		s := d.slope()
		width, height := 1+d.below(9), 1+d.below(9)
		b, r := d.picture(width, height, -16384, 16384), d.picture(width, height, -300, 300)
		colour := [2]int{d.between(-16384, 16384), d.between(-300, 300)}
		var key []int
		for i, level := range levelsOf(b) {
			key = append(key, slopeShare(s, absolute(level-colour[0])+absolute(levelsOf(r)[i]-colour[1])))
		}
		want(t, results(b, r, colour, s), results(mixer.Chroma(b, r, colour, s)), key, api.OK)
	}
}

// P6.1: the errors of Chroma.
func TestChromaErrors(t *testing.T) {
	colours := []given[[2]int]{{[2]int{200, 0}, api.OK}}
	for _, n := range numbers(-16384, 16384, api.ErrRange) {
		colours = append(colours, given[[2]int]{[2]int{n.v, 0}, n.e}, given[[2]int]{[2]int{0, n.v}, n.e}, given[[2]int]{[2]int{n.v, n.v}, n.e})
	}
	for _, p := range pairs() {
		for _, c := range colours {
			for _, s := range slopes() {
				wantError(t, results(p.v, c.v, s.v), results(mixer.Chroma(p.v[0], p.v[1], c.v, s.v)), firstError(p.e, c.e, s.e), []int(nil))
			}
		}
	}
}

// P6.1
func TestUnspilled(t *testing.T) {
	for _, x := range []struct {
		p      picture.Picture
		key    []int
		levels []int
	}{
		{pictureP(), []int{56, 256}, []int{56, 0}},
		{row(100, 100, 100), []int{0, 128, 256}, []int{0, 50, 100}},
		{row(1, 1, 1, 1), []int{127, 128, 129, 255}, []int{0, 0, 1, 1}}, // of a half, the greater integer is taken away
		{row(-1, -1, -1, -1), []int{127, 128, 129, 1}, []int{0, -1, -1, 0}},
		{row(-3, 3), []int{128, 128}, []int{-2, 1}},
		{row(16384, -16384), []int{1, 1}, []int{64, -64}},
		{row(16384, -16384), []int{0, 0}, []int{0, 0}},
	} {
		wanted := x.p
		wanted.Samples = samples(x.levels...)
		want(t, x, results(mixer.Unspilled(x.p, x.key)), wanted, api.OK)
	}
	d := dice(3)
	for range 300 {
		p := named("x", d.picture(1+d.below(9), 1+d.below(9), -16384, 16384))
		key := d.key(len(p.Samples))
		wanted := with(p, 0, 0)
		for i, level := range levelsOf(p) {
			wanted.Samples[i] = float32(level-rounded(level*(256-key[i]), 256)) / 16
		}
		want(t, results(p, key), results(mixer.Unspilled(p, key)), wanted, api.OK)
	}
	for _, p := range pictures() {
		for _, key := range keysFor() {
			wantError(t, results(p.v, key.v), results(mixer.Unspilled(p.v, key.v)), firstError(p.e, key.e), picture.Picture{})
		}
	}
}

// P6.1
func TestInverted(t *testing.T) {
	want(t, "the example", results(mixer.Inverted([]int{192, 0})), []int{64, 256}, api.OK)
	want(t, "the least key", results(mixer.Inverted([]int{128})), []int{128}, api.OK)
	for _, key := range keys() {
		wantError(t, key.v, results(mixer.Inverted(key.v)), key.e, []int(nil))
	}
	d := dice(4)
	for range 50 {
		key := d.key(1 + d.below(4096))
		inverted := must[[]int](t)(mixer.Inverted(key))
		for i, share := range key {
			if inverted[i]+share != 256 {
				t.Fatalf("%v: got %v", key, inverted)
			}
		}
		want(t, key, results(len(inverted)), len(key))
	}
}

// P6.1
func TestLesserAndGreater(t *testing.T) {
	a, b := []int{0, 256, 7, 7, 100}, []int{256, 0, 8, 6, 100}
	want(t, "Lesser", results(mixer.Lesser(a, b)), []int{0, 0, 7, 6, 100}, api.OK)
	want(t, "Lesser", results(mixer.Lesser(b, a)), []int{0, 0, 7, 6, 100}, api.OK)
	want(t, "Greater", results(mixer.Greater(a, b)), []int{256, 256, 8, 7, 100}, api.OK)
	want(t, "Greater", results(mixer.Greater(b, a)), []int{256, 256, 8, 7, 100}, api.OK)
	for _, a := range keysFor() {
		for _, b := range keysFor() {
			e := firstError(mixer.CheckKey(a.v), mixer.CheckKey(b.v))
			if e == api.OK && len(a.v) != len(b.v) {
				e = api.ErrShape
			}
			if a.e != api.OK && a.e != api.ErrShape { // the first key's error comes before all others
				e = a.e
			}
			wantError(t, results(a.v, b.v), results(mixer.Lesser(a.v, b.v)), e, []int(nil))
			wantError(t, results(a.v, b.v), results(mixer.Greater(a.v, b.v)), e, []int(nil))
		}
	}
	want(t, "a wrong second key of another length", results(mixer.Lesser(a, []int{257})), []int{}, api.ErrRange)
	want(t, "a second key of another length", results(mixer.Lesser(a, b[1:])), []int{}, api.ErrShape)
	want(t, "a first key of another length", results(mixer.Greater(a[1:], b)), []int{}, api.ErrShape)
}
