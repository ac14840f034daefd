package colour_test

import (
	"strings"
	"testing"

	"genlock/api"
	"genlock/colour"
	"genlock/picture"
)

// The limits of the chapter.
func TestLimits(t *testing.T) {
	want(t, "limits", results(colour.MaxLevel, colour.MaxPoints, colour.MaxKnee, colour.MaxGain, colour.MaxEntry, colour.MaxCube, colour.MaxPlanes, colour.MaxSum, colour.MaxFrames, colour.MaxSound, colour.MaxTaps, colour.MaxTap, colour.Unity), 16384, 16, 64, 512, 4096, 6, 16, 1<<40, 256, 4096, 8, 100, 256)
}

// Arguments are neither changed nor kept, and results share no memory with them or with each other.
func TestMemoryOfCurves(t *testing.T) {
	c := curveC()
	inverse, _ := colour.Inverse(c)
	another, _ := colour.Inverse(c)
	knee, _ := colour.Knee(5, 5)
	sameKnee, _ := colour.Knee(5, 5)
	parsed, _, _ := colour.Parse(textC)
	want(t, "the argument", results(c), curveC())
	for _, l := range []colour.Curve{c, inverse, knee, parsed} {
		for i := range l {
			l[i] = colour.Point{In: 77, Out: 77}
		}
	}
	wanted, _ := colour.Inverse(curveC())
	want(t, "another inverse", results(another), wanted)
	want(t, "another knee", results(sameKnee), colour.Curve{{In: -16384, Out: -16384}, {In: 5, Out: 5}, {In: 16384, Out: 3281}})
	want(t, "another curve", results(colour.Parse(textC)), curveC(), 0, api.OK)
}

// Pictures are neither changed nor kept.
func TestMemoryOfPictures(t *testing.T) {
	columns, rows := []int{256, 256, 256}, []int{256, 256}
	for name, f := range map[string]func(p [3]picture.Picture) (picture.Picture, api.Errno){
		"Applied": func(p [3]picture.Picture) (picture.Picture, api.Errno) {
			return colour.Applied(colour.Curve{{In: -16384, Out: -16384}, {In: 16384, Out: 16384}}, p[0])
		},
		"Shaded": func(p [3]picture.Picture) (picture.Picture, api.Errno) { return colour.Shaded(p[0], columns, rows) },
		"Clipped": func(p [3]picture.Picture) (picture.Picture, api.Errno) {
			return colour.Clipped(p[0], api.Interval{Low: -16384, High: 16384})
		},
		"Luma": func(p [3]picture.Picture) (picture.Picture, api.Errno) {
			return colour.Luma(p, [3]int{256, 0, 0})
		},
	} {
		right := made(3, 2, 1, 2, 3, 4, 5, 6)
		p := [3]picture.Picture{made(3, 2, 1, 2, 3, 4, 5, 6), filled(3, 2, 9), filled(3, 2, 8)}
		q, e := f(p)
		other, _ := f(p)
		want(t, name, results(p, q, e), [3]picture.Picture{right, filled(3, 2, 9), filled(3, 2, 8)}, right, api.OK)
		clear(p[0].Samples)
		want(t, name, results(q), right)
		clear(q.Samples)
		want(t, name, results(other), right)
	}
	want(t, "gains", results(columns, rows), []int{256, 256, 256}, []int{256, 256})
}

// Lists are neither changed nor kept.
func TestMemoryOfLists(t *testing.T) {
	g := []colour.Plane{{Most: -1}}
	l := chapterFrames()
	sound, taps := samples(16, 32, 0, 16), []int{1, -1}
	p := [3]picture.Picture{filled(1, 1, 0), filled(1, 1, 0), filled(1, 1, 0)}
	for range 2 { // the second time all is as it was
		violations, e := colour.Violations(g, p)
		want(t, "Violations", results(violations, e), []colour.Violation{{}}, api.OK)
		flashes, e := colour.Flashes(l, 1)
		want(t, "Flashes", results(flashes, e), []int{1, 3}, api.OK)
		broken, e := colour.Broken(l, 1, 0, 1)
		want(t, "Broken", results(broken, e), []int{1, 3}, api.OK)
		loudness, e := colour.Loudness(sound, taps, 2)
		want(t, "Loudness", results(loudness, e), []int{512, 1280}, api.OK)
		loud, e := colour.Loud(sound, taps, 2, 512)
		want(t, "Loud", results(loud, e), []int{1}, api.OK)
		lost, e := colour.Lost(matrixM(), api.Interval{Low: 0, High: 1})
		want(t, "Lost", results(lost, e), [][3]int{{0, 1, 0}, {0, 1, 1}}, api.OK)
		clear(violations)
		clear(flashes)
		clear(broken)
		clear(loudness)
		clear(loud)
		clear(lost)
	}
	want(t, "the arguments", results(g, l, sound, taps), []colour.Plane{{Most: -1}}, chapterFrames(), samples(16, 32, 0, 16), []int{1, -1})
}

// P1: texts without a form.
func TestAllTexts(t *testing.T) {
	d := dice(11)
	for range 5000 {
		s := []byte(textC)
		for range 1 + d.below(4) {
			s[d.below(len(s))] = " \ncurvepoint-0193\xff"[d.below(18)]
		}
		s = s[:d.below(len(s)+1)]
		c, at, e := colour.Parse(string(s))
		switch {
		case e == api.OK:
			want(t, string(s), results(colour.Print(c)), string(s), api.OK)
			want(t, string(s), results(at, colour.CheckCurve(c)), 0, api.OK)
		case len(c) > 0 || at < 0 || at > 1+strings.Count(string(s), "\n"):
			t.Errorf("%q: got %v, %d, %d", s, c, at, e)
		}
	}
}
