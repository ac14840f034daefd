package tape_test

import (
	"slices"
	"testing"

	"genlock/api"
	"genlock/code"
	"genlock/tape"
)

// stamp returns a stamp of a rate.
func stamp(rate code.Rate, hours, minutes, seconds, frames int) code.Stamp {
	return code.Stamp{Rate: rate, Label: code.Label{Hours: hours, Minutes: minutes, Seconds: seconds, Frames: frames}}
}

// givenCadences are cadences, and what is none.
func givenCadences() []given[[]int] {
	l := []given[[]int]{{nil, api.ErrEmpty}, {[]int{2, 3}, api.OK}, {[]int{1}, api.OK}, {[]int{4, 4, 4, 4, 4, 4, 4, 4}, api.OK}, {make([]int, 9), api.ErrMany}, {make([]int, 8), api.ErrRange}, {[]int{1, 2, 5, 0}, api.ErrRange}}
	for _, n := range numbers(1, 4, api.ErrRange) {
		l = append(l, given[[]int]{[]int{1, n.v}, n.e})
	}
	return l
}

// givenStamps are stamps, and what is none.
func givenStamps() []given[code.Stamp] {
	drop := code.Rate{Frames: 30, Drop: true}
	user := stamp(drop, 23, 59, 59, 29)
	user.User = 65536
	return []given[code.Stamp]{
		{stamp(code.Rate{Frames: 25}, 0, 0, 0, 23), api.OK}, {stamp(code.Rate{Frames: 24}, 23, 59, 59, 23), api.OK}, {stamp(drop, 0, 0, 59, 28), api.OK}, {stamp(drop, 23, 59, 59, 29), api.OK},
		{code.Stamp{}, api.ErrKind}, {stamp(code.Rate{Frames: 29}, 24, 0, 0, 0), api.ErrKind}, {stamp(code.Rate{Frames: 25, Drop: true}, 0, 0, 0, 0), api.ErrConflict}, {stamp(code.Rate{Frames: 25}, 0, 0, 0, 25), api.ErrRange}, {stamp(drop, 0, 60, 0, 0), api.ErrRange}, {stamp(drop, 0, 1, 0, 1), api.ErrNone}, {user, api.ErrRange},
	}
}

// P8.4: the document's example 8.
func TestExampleRates(t *testing.T) {
	reels, l := exampleReels(), exampleEdits()
	want(t, l, results(tape.Converted(reels, l, []int{1, 1})), [][2]int{{0, 1}, {2, 3}, {4, 5}}, api.OK)
	at25 := code.Rate{Frames: 25}
	want(t, l, results(tape.Labels(reels, l, stamp(at25, 0, 0, 0, 23))), []code.Label{{Frames: 23}, {Seconds: 1, Frames: 1}, {Seconds: 1, Frames: 3}}, api.OK)
}

// P8.4: frames that are pulled, and the errors.
func TestConverted(t *testing.T) {
	d := dice(8)
	for _, c := range givenCadences() {
		for _, l := range givenEdits() {
			e := firstError(l.e, c.e)
			wantError(t, results(l.v, c.v), results(tape.Converted(exampleReels(), l.v, c.v)), e, [][2]int{})
		}
		for _, r := range givenLists() {
			wantError(t, results(r.v, c.v), results(tape.Converted(r.v, nil, c.v)), firstError(r.e, c.e), [][2]int{})
		}
		long := []tape.Reel{reel("a", 0, make([]int, 256)...)}
		for length := 1; length <= 512; length++ {
			l := edits(edit("a", 0, min(length, 256), 0, 0))
			if length > 256 {
				l = append(l, edit("a", 0, length-256, 0, 0))
			}
			if length > 256 || c.e != api.OK {
				want(t, results(length, c.v), results(tape.Converted(long, l, c.v)), [][2]int{}, firstError(c.e, api.ErrMany))
				continue
			}
			want(t, results(length, c.v), results(tape.Converted(long, l, c.v)), pulled(c.v, length), api.OK)
		}
	}
	for range 300 {
		reels := d.reels()
		l := d.list(reels, 4)
		repeats := []int{d.between(1, 4), d.between(1, 4), d.between(1, 4)}[d.below(3):]
		_, _, length := begins(l)
		if length <= 256 {
			want(t, results(l, repeats), results(tape.Converted(reels, l, repeats)), pulled(repeats, length), api.OK)
		}
	}
}

// pulled returns the frames that each two fields come from.
func pulled(repeats []int, frames int) [][2]int {
	var fields []int
	for i := range frames {
		fields = append(fields, slices.Repeat([]int{i}, repeats[i%len(repeats)])...)
	}
	var l [][2]int
	for i := 1; i < len(fields); i += 2 {
		l = append(l, [2]int{fields[i-1], fields[i]})
	}
	return l
}

// P8.4: the labels of edits, also of those after midnight and after dropped numbers, and the errors.
func TestLabels(t *testing.T) {
	for _, s := range givenStamps() {
		for _, l := range givenEdits() {
			e := firstError(l.e, s.e)
			wantError(t, results(l.v, s.v), results(tape.Labels(exampleReels(), l.v, s.v)), e, []code.Label{})
			if e != api.OK {
				continue
			}
			var labels []code.Label
			seen, _, _ := begins(l.v)
			for _, frame := range seen {
				labels = append(labels, must[code.Label](t)(code.Added(s.v.Rate, s.v.Label, frame)))
			}
			want(t, results(l.v, s.v), results(tape.Labels(exampleReels(), l.v, s.v)), labels, api.OK)
		}
		for _, r := range givenLists() {
			wantError(t, results(r.v, s.v), results(tape.Labels(r.v, nil, s.v)), firstError(r.e, s.e), []code.Label{})
		}
	}
	reels, l := exampleReels(), exampleEdits()
	drop := code.Rate{Frames: 30, Drop: true}
	want(t, "dropped", results(tape.Labels(reels, l, stamp(drop, 0, 0, 59, 28))), []code.Label{{Seconds: 59, Frames: 28}, {Minutes: 1, Frames: 3}, {Minutes: 1, Frames: 5}}, api.OK)
	want(t, "midnight", results(tape.Labels(reels, l, stamp(code.Rate{Frames: 24}, 23, 59, 59, 20))), []code.Label{{Hours: 23, Minutes: 59, Seconds: 59, Frames: 20}, {Hours: 23, Minutes: 59, Seconds: 59, Frames: 23}, {Frames: 1}}, api.OK)
}
