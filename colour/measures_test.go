package colour_test

import (
	"slices"
	"testing"

	"genlock/api"
	"genlock/colour"
	"genlock/picture"
)

// still returns pictures of one sample each with these levels.
func still(levels ...int) []picture.Picture {
	var l []picture.Picture
	for _, n := range levels {
		l = append(l, filled(1, 1, n))
	}
	return l
}

// chapterFrames are the pictures of the chapter's examples: their means are 0, 2, 2.5 and 0.
func chapterFrames() []picture.Picture {
	return []picture.Picture{made(2, 1, -16, 16), made(2, 1, 64, 0), named("q", made(2, 1, 39, 41)), made(2, 1, 1, -1)}
}

// P2.4
func TestFlashes(t *testing.T) {
	for _, x := range []struct {
		l       []picture.Picture
		step    float32
		flashes []int
	}{
		{chapterFrames(), 1, []int{1, 3}},
		{chapterFrames(), 0.5, []int{1, 3}},
		{chapterFrames(), 0.4375, []int{1, 2, 3}},
		{chapterFrames(), 0, []int{1, 2, 3}},
		{chapterFrames(), 2, []int{3}},
		{chapterFrames(), 2.5, nil},
		{nil, 0, nil},
		{still(5), 0, nil},
		{still(5, 5, 5), 0, nil},
		{still(16384, -16384, 16384), 1024, []int{1, 2}},
		{still(0, 16384, 0, -16384), 1024, nil},
		{still(0, 16384, 0, -16384), 1023.9375, []int{1, 2, 3}},
		{still(0, 3, 7, 10, 20), 0.1875, []int{2, 4}},
		// the means are 1/48, 5/48 and 6/48: they differ by 4/48, which is above 1/16, and by 1/48
		{[]picture.Picture{made(3, 1, 0, 0, 1), made(3, 1, 1, 2, 2), made(3, 1, 2, 2, 2)}, 0.0625, []int{1}},
		{[]picture.Picture{made(3, 1, 0, 0, 1), made(3, 1, 1, 2, 1), made(3, 1, 2, 2, 2)}, 0.0625, nil},
		{[]picture.Picture{made(3, 1, 0, 0, 1), made(3, 1, 1, 0, 0), made(3, 1, 0, 1, 1)}, 0, []int{2}},
	} {
		want(t, x, results(colour.Flashes(x.l, x.step)), x.flashes, api.OK)
	}
	big := []picture.Picture{filled(64, 64, 16384), filled(64, 64, -16384), with(filled(64, 64, 16384), 4095, 1023.9375), filled(64, 64, 16384)}
	want(t, "big pictures", results(colour.Flashes(big, 1024)), []int{1, 2}, api.OK)
	want(t, "big pictures by 0", results(colour.Flashes(big, 0)), []int{1, 2, 3}, api.OK)
}

// P2.4
func TestBroken(t *testing.T) {
	alternating := slices.Repeat(still(0, 16), 4) // flashes at 1 to 7
	for _, x := range []struct {
		l            []picture.Picture
		step         float32
		most, window int
		broken       []int
	}{
		{chapterFrames(), 1, 1, 3, []int{3}},
		{chapterFrames(), 1, 1, 2, nil},
		{chapterFrames(), 1, 0, 1, []int{1, 3}},
		{chapterFrames(), 1, 0, 2, []int{1, 2, 3}},
		{chapterFrames(), 1, 2, 256, nil},
		{chapterFrames(), 0.4375, 1, 2, []int{2, 3}},
		{chapterFrames(), 0.4375, 2, 256, []int{3}},
		{chapterFrames(), 1, 0, 256, []int{1, 2, 3}},
		{alternating, 0, 3, 3, nil},
		{alternating, 0, 3, 4, []int{4, 5, 6, 7}},
		{alternating, 0, 2, 3, []int{3, 4, 5, 6, 7}},
		{alternating, 0, 6, 256, []int{7}},
		{alternating, 0, 7, 256, nil},
		{alternating, 0, 256, 256, nil},
		{alternating, 1, 0, 256, nil},
		{still(0, 16, 16, 16, 16, 0, 16, 16), 0, 1, 2, []int{6}},
		{still(0, 16, 16, 16, 16, 0, 16, 16), 0, 1, 3, []int{6, 7}},
		{still(0, 16, 16, 16, 16, 0, 16, 16), 0, 0, 3, []int{1, 2, 3, 5, 6, 7}},
		{nil, 0, 0, 1, nil},
		{still(3), 0, 0, 1, nil},
	} {
		want(t, x, results(colour.Broken(x.l, x.step, x.most, x.window)), x.broken, api.OK)
	}
}

// P2.4
func TestLoudness(t *testing.T) {
	sound := samples(16, 32, 0, 16)
	for _, x := range []struct {
		sound []float32
		taps  []int
		block int
		sums  []int
	}{
		{sound, []int{1, -1}, 2, []int{512, 1280}},
		{sound, []int{1, -1}, 1, []int{256, 256, 1024, 256}},
		{sound, []int{1, -1}, 3, []int{1536}},
		{sound, []int{1, -1}, 4, []int{1792}},
		{sound, []int{1, -1}, 5, nil},
		{sound, []int{1, -1}, 4096, nil},
		{sound, []int{0, 0, 0, 3}, 1, []int{0, 0, 0, 2304}},
		{sound, []int{0, 2, 0, 0, 1, 1, 1, 1}, 2, []int{1024, 4096}},
		{sound, []int{-1, 2, 1}, 2, []int{256, 6656}},
		{samples(1, 2, 3, 4, 5, 6, 7, 8), []int{1, 10, 100}, 3, []int{1 + 12*12 + 123*123, 234*234 + 345*345 + 456*456}},
		{samples(-7), []int{-100}, 1, []int{490000}},
		{nil, []int{1}, 1, nil},
		{sound, []int{0}, 2, []int{0, 0}},
	} {
		want(t, x, results(colour.Loudness(x.sound, x.taps, x.block)), x.sums, api.OK)
	}
	loudest := slices.Repeat([]float32{1024}, 4096)
	hundreds := slices.Repeat([]int{100}, 8)
	want(t, "the loudest sound", results(colour.Loudness(loudest, hundreds, 4096)), []int{702860660572160000}, api.OK)
	want(t, "the loudest sound", results(colour.Loud(loudest, hundreds, 4096, 702860660572159999)), []int{0}, api.OK)
	want(t, "the loudest sound", results(colour.Loud(loudest, hundreds, 4096, 702860660572160000)), []int(nil), api.OK)
}

// P2.4
func TestLoud(t *testing.T) {
	sound := samples(16, 32, 0, 16, 99)
	for _, x := range []struct {
		block, limit int
		loud         []int
	}{
		{2, 1279, []int{1}}, {2, 1280, nil}, {2, 511, []int{0, 1}}, {2, 512, []int{1}}, {2, 0, []int{0, 1}}, {1, 256, []int{2, 4}}, {1, 255, []int{0, 1, 2, 3, 4}}, {5, 0, []int{0}}, {6, 0, nil}, {1, 1 << 60, nil},
	} {
		want(t, x, results(colour.Loud(sound, []int{1, -1}, x.block, x.limit)), x.loud, api.OK)
	}
	want(t, "silence", results(colour.Loud(make([]float32, 8), []int{7}, 2, 0)), []int(nil), api.OK)
}

// P2.4: the errors of the arguments, from left to right.
func TestErrorsOfSequences(t *testing.T) {
	for _, l := range sequences() {
		for _, step := range steps() {
			wantError(t, step.v, results(colour.Flashes(l.v, step.v)), firstError(l.e, step.e), []int(nil))
			for _, most := range numbers(0, 256) {
				for _, window := range numbers(1, 256) {
					wantError(t, results(step.v, most.v, window.v), results(colour.Broken(l.v, step.v, most.v, window.v)), firstError(l.e, step.e, most.e, window.e), []int(nil))
				}
			}
		}
	}
}

// P2.4: the errors of the arguments, from left to right.
func TestErrorsOfSounds(t *testing.T) {
	for _, sound := range sounds() {
		for _, taps := range tapses() {
			for _, block := range numbers(1, 4096) {
				e := firstError(sound.e, taps.e, block.e)
				wantError(t, results(taps.v, block.v), results(colour.Loudness(sound.v, taps.v, block.v)), e, []int(nil))
				for _, limit := range numbers(0, 1<<60) {
					wantError(t, results(taps.v, block.v, limit.v), results(colour.Loud(sound.v, taps.v, block.v, limit.v)), firstError(e, limit.e), []int(nil))
				}
			}
		}
	}
}
