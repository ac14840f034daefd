package mixer_test

import (
	"fmt"
	"math"
	"slices"
	"strconv"
	"strings"
	"testing"

	"genlock/api"
	"genlock/mixer"
	"genlock/picture"
)

// The tests use the exported functions alone, so that they hold for every implementation of the chapter.

var (
	nan      = float32(math.NaN())
	infinite = float32(math.Inf(1))
	minus0   = float32(math.Copysign(0, -1))
)

// results returns the results of a call as a list.
func results(l ...any) []any { return l }

// want compares the results of a call with the expected ones; nil and empty lists are equal.
func want(t *testing.T, what any, got []any, wanted ...any) {
	t.Helper()
	if g, w := fmt.Sprintf("%+v", got), fmt.Sprintf("%+v", wanted); g != w {
		t.Errorf("%+v: got %s, want %s", what, g, w)
	}
}

// wantError compares the error of a call, its last result, with the expected one; beside an error all other results are zero values.
func wantError(t *testing.T, what any, got []any, e api.Errno, zero ...any) {
	t.Helper()
	if e == api.OK {
		got, zero = got[len(got)-1:], nil
	}
	want(t, what, got, append(slices.Clone(zero), e)...)
}

// must returns a result that has no error.
func must[T any](t *testing.T) func(x T, e api.Errno) T {
	return func(x T, e api.Errno) T {
		t.Helper()
		if e != api.OK {
			t.Fatalf("error %d", e)
		}
		return x
	}
}

// given is an argument, and its error.
type given[T any] struct {
	v T
	e api.Errno
}

// firstError returns the first error of some, or OK.
func firstError(l ...api.Errno) api.Errno {
	for _, e := range l {
		if e != api.OK {
			return e
		}
	}
	return api.OK
}

// numbers are the least and the greatest number of a range, some outside of it, and their errors.
func numbers(low, high int, e api.Errno) []given[int] {
	return []given[int]{{low, api.OK}, {high, api.OK}, {low - 1, e}, {high + 1, e}, {math.MinInt, e}, {math.MaxInt, e}}
}

// dice are numbers that are the same in every run.
type dice uint64

func (d *dice) below(n int) int {
	*d = *d*6364136223846793005 + 1442695040888963407
	return int(uint64(*d) >> 33 % uint64(n))
}

// between returns a number from low to high; the bounds are more likely than the others.
func (d *dice) between(low, high int) int {
	switch d.below(8) {
	case 0:
		return low
	case 1:
		return high
	}
	return low + d.below(high-low+1)
}

// key returns n shares.
func (d *dice) key(n int) []int {
	l := make([]int, n)
	for i := range l {
		l[i] = d.between(0, 256)
	}
	return l
}

// picture returns a picture with levels from low to high.
func (d *dice) picture(width, height, low, high int) picture.Picture {
	l := make([]int, width*height)
	for i := range l {
		l[i] = d.between(low, high)
	}
	return made(width, height, l...)
}

// pictures returns n pictures of one size, each with a name and a range of levels of its own, and these ranges.
func (d *dice) pictures(n, width, height int) ([]picture.Picture, []api.Interval) {
	var l []picture.Picture
	var ranges []api.Interval
	for i := range n {
		r := api.Interval{Low: d.between(-16384, 16384)}
		r.High = d.between(r.Low, min(16384, r.Low+[]int{0, 3, 300, 40000}[d.below(4)]))
		l = append(l, named("p"+strconv.Itoa(i), d.picture(width, height, r.Low, r.High)))
		ranges = append(ranges, r)
	}
	return l, ranges
}

// slope returns any slope.
func (d *dice) slope() mixer.Slope {
	return mixer.Slope{Clip: d.between(-16384, 16384), Gain: d.between(1, []int{10, 256, 4096}[d.below(3)])}
}

// wipe returns any wipe; most of them have an edge within a small picture.
func (d *dice) wipe() mixer.Wipe {
	most := []int{3, 40, 100}[d.below(3)]
	w := mixer.Wipe{Shape: []string{"half", "box", "diamond"}[d.below(3)], A: d.between(-most, most), B: d.between(-most, most), At: d.between(-most, 2*most), Soft: d.below(most)}
	switch d.below(8) {
	case 0:
		w.At = d.between(-100000, 100000)
	case 1:
		w.Soft = d.between(0, 100000)
	case 2:
		w.Soft = 0
	}
	return w
}

// node returns any node for the place at of a tree with sources below a number.
func (d *dice) node(at, sources int) mixer.Node {
	if at == 0 || d.below(4) == 0 {
		if sources > 0 && d.below(3) > 0 {
			return mixer.Node{Kind: "source", Number: d.below(sources)}
		}
		return mixer.Node{Kind: "matte", Number: d.between(-16384, 16384)}
	}
	n := mixer.Node{A: d.below(at), B: d.below(at)}
	switch d.below(3) {
	case 0:
		n.Kind, n.Number = "mix", d.between(0, 256)
	case 1:
		n.Kind, n.Wipe = "wipe", d.wipe()
	case 2:
		n.Kind, n.C, n.Slope = "key", d.below(at), d.slope()
	}
	return n
}

// tree returns any tree of some nodes with sources below a number.
func (d *dice) tree(nodes, sources int) []mixer.Node {
	var l []mixer.Node
	for at := range nodes {
		l = append(l, d.node(at, sources))
	}
	return l
}

// rounded returns n / d, rounded to the nearest integer, from the middle to the greater one.
func rounded(n, d int) int {
	return int(math.Floor(float64(n)/float64(d) + 0.5))
}

// mixOf returns the mix of two levels by a share.
func mixOf(a, b, share int) int { return rounded(a*(256-share)+b*share, 256) }

// slopeShare returns the share that a level gets.
func slopeShare(s mixer.Slope, level int) int {
	return min(256, max(0, rounded((level-s.Clip)*s.Gain, 256)))
}

// absolute returns the absolute value of n.
func absolute(n int) int {
	if n < 0 {
		return -n
	}
	return n
}

// wipeValue returns the value of a wipe at a column and a row.
func wipeValue(w mixer.Wipe, x, y int) int {
	u, v := absolute(2*x-w.A), absolute(2*y-w.B)
	switch {
	case w.Shape == "half":
		return w.A*x + w.B*y
	case w.Shape == "diamond":
		return u + v
	case u > v:
		return u
	}
	return v
}

// wipeShare returns the share of a wipe at a column and a row.
func wipeShare(w mixer.Wipe, x, y int) int {
	value := wipeValue(w, x, y)
	if value <= w.At-w.Soft {
		return 256
	}
	if value > w.At+w.Soft {
		return 0
	}
	return rounded(256*(w.At+w.Soft-value), 2*w.Soft)
}

// levelsAt returns the levels of all nodes of a tree at a column and a row.
func levelsAt(t []mixer.Node, l []picture.Picture, x, y int) []int {
	var all []int
	for _, n := range t {
		level, share := n.Number, n.Number
		switch n.Kind {
		case "source":
			p := l[n.Number]
			level = int(p.Samples[y*p.Width+x] * 16)
		case "wipe":
			share = wipeShare(n.Wipe, x, y)
		case "key":
			share = slopeShare(n.Slope, all[n.C])
		}
		if n.Kind != "source" && n.Kind != "matte" {
			level = mixOf(all[n.A], all[n.B], share)
		}
		all = append(all, level)
	}
	return all
}

// pictureOf returns the picture of a tree in a span of columns and one of rows.
func pictureOf(t []mixer.Node, l []picture.Picture, columns, rows api.Span) picture.Picture {
	var levels []int
	for y := rows.From; y < rows.To; y++ {
		for x := columns.From; x < columns.To; x++ {
			levels = append(levels, levelsAt(t, l, x, y)[len(t)-1])
		}
	}
	return named(l[0].Name, made(columns.To-columns.From, rows.To-rows.From, levels...))
}

// whole returns both spans of a picture.
func whole(p picture.Picture) (columns, rows api.Span) {
	return api.Span{To: p.Width}, api.Span{To: p.Height}
}

// samples returns the samples with some levels.
func samples(levels ...int) []float32 {
	var l []float32
	for _, n := range levels {
		l = append(l, float32(n)/16)
	}
	return l
}

// levelsOf returns the levels of a picture.
func levelsOf(p picture.Picture) []int {
	var l []int
	for _, x := range p.Samples {
		l = append(l, int(16*x))
	}
	return l
}

// made returns a picture with the name p, and samples with these levels.
func made(width, height int, levels ...int) picture.Picture {
	return picture.Picture{Name: "p", Width: width, Height: height, Samples: samples(levels...)}
}

// row returns a picture of one row with these levels.
func row(levels ...int) picture.Picture { return made(len(levels), 1, levels...) }

// filled returns a picture with the same level everywhere.
func filled(width, height, level int) picture.Picture {
	return made(width, height, slices.Repeat([]int{level}, width*height)...)
}

// named returns the picture with another name.
func named(name string, p picture.Picture) picture.Picture {
	p.Name = name
	return p
}

// with returns the picture with another sample at a place.
func with(p picture.Picture, at int, x float32) picture.Picture {
	p.Samples = slices.Clone(p.Samples)
	p.Samples[at] = x
	return p
}

// pictureP and pictureQ are those of the chapter's examples.
func pictureP() picture.Picture { return row(256, 0) }

func pictureQ() picture.Picture { return named("q", row(0, 128)) }

// tree returns the tree with a text, which is cut into lines at each `;`; a line may set what its kind does not use, as `A=3`.
func tree(s string) []mixer.Node {
	var t []mixer.Node
	for line := range strings.SplitSeq(s, ";") {
		words := strings.Fields(line)
		n := mixer.Node{}
		if len(words) > 0 {
			n.Kind, words = words[0], words[1:]
		}
		slots := map[string][]any{
			"source": {&n.Number},
			"matte":  {&n.Number},
			"mix":    {&n.A, &n.B, &n.Number},
			"wipe":   {&n.A, &n.B, &n.Wipe.Shape, &n.Wipe.A, &n.Wipe.B, &n.Wipe.At, &n.Wipe.Soft},
			"key":    {&n.A, &n.B, &n.C, &n.Slope.Clip, &n.Slope.Gain},
		}[n.Kind]
		names := map[string]any{"A": &n.A, "B": &n.B, "C": &n.C, "Number": &n.Number, "Clip": &n.Slope.Clip, "Gain": &n.Slope.Gain, "Shape": &n.Wipe.Shape, "w.A": &n.Wipe.A, "w.B": &n.Wipe.B, "At": &n.Wipe.At, "Soft": &n.Wipe.Soft}
		for i, word := range words {
			var slot any
			if name, value, ok := strings.Cut(word, "="); ok {
				slot, word = names[name], value
			} else {
				slot = slots[i]
			}
			switch x := slot.(type) {
			case *int:
				number, err := strconv.Atoi(word)
				if err != nil {
					panic(line)
				}
				*x = number
			case *string:
				*x = word
			default:
				panic(line)
			}
		}
		t = append(t, n)
	}
	return t
}

// text returns the text of a tree that tree has read.
func text(s string) string {
	return strings.ReplaceAll(s, ";", "\n") + "\n"
}

// exampleT is the tree of the chapter's examples.
const exampleT = "source 0;source 1;matte 64;mix 0 1 128;key 3 2 1 0 256"

// fullTree has each kind with its greatest and its least numbers, and as many nodes as there may be.
const fullTree = "source 7;source 0;matte -16384;matte 16384;mix 0 0 0;mix 3 1 256;wipe 2 3 half -100 100 -100000 100000;wipe 6 6 box 100 -100 100000 0;wipe 0 7 diamond 0 0 0 1;key 8 0 8 -16384 4096;key 1 9 0 16384 1;mix 10 10 1;matte 0;source 3;wipe 13 12 half 1 1 1 1;mix 14 11 255"

// pictures are pictures with their errors; those that have none are 3 columns wide and 2 rows high.
func pictures() []given[picture.Picture] {
	right := made(3, 2, 16, 32, -48, 64, 0, -16384)
	return []given[picture.Picture]{
		{right, api.OK},
		{named("abcdefghijklmnopqrstuvwx", filled(3, 2, 16384)), api.OK},
		{with(right, 1, minus0), api.OK},
		{picture.Picture{}, api.ErrName},
		{named("9", with(right, 0, nan)), api.ErrName},
		{picture.Picture{Name: "p", Width: 0, Height: 1}, api.ErrRange},
		{picture.Picture{Name: "p", Width: math.MaxInt, Height: math.MaxInt}, api.ErrRange},
		{picture.Picture{Name: "p", Width: 1, Height: 65, Samples: make([]float32, 65)}, api.ErrRange},
		{picture.Picture{Name: "p", Width: 3, Height: 2, Samples: []float32{nan, 1}}, api.ErrShape},
		{with(with(right, 4, 0.03125), 5, nan), api.ErrRange},
		{with(with(right, 5, 0.03125), 4, nan), api.ErrForm},
		{with(right, 0, -infinite), api.ErrForm},
		{with(right, 5, 1024.0625), api.ErrRange},
	}
}

// pairs are two pictures with their errors; those that have none are 3 columns wide and 2 rows high.
func pairs() []given[[2]picture.Picture] {
	right := made(3, 2, 1, 2, 3, 4, 5, 6)
	l := []given[[2]picture.Picture]{
		{[2]picture.Picture{right, named("q", filled(3, 2, -5))}, api.OK},
		{[2]picture.Picture{right, filled(2, 3, 0)}, api.ErrShape},
		{[2]picture.Picture{filled(2, 3, 0), right}, api.ErrShape},
		{[2]picture.Picture{right, filled(3, 1, 0)}, api.ErrShape},
		{[2]picture.Picture{filled(2, 2, 0), right}, api.ErrShape},
	}
	for _, p := range pictures() {
		if p.e != api.OK {
			l = append(l, given[[2]picture.Picture]{[2]picture.Picture{p.v, right}, p.e}, given[[2]picture.Picture]{[2]picture.Picture{right, p.v}, p.e})
			l = append(l, given[[2]picture.Picture]{[2]picture.Picture{p.v, {}}, p.e}, given[[2]picture.Picture]{[2]picture.Picture{filled(1, 1, 0), p.v}, p.e})
		}
	}
	return l
}

// keys are keys with their errors; those that have none have 6 shares.
func keys() []given[[]int] {
	l := []given[[]int]{
		{[]int{0, 1, 128, 255, 256, 7}, api.OK},
		{make([]int, 6), api.OK},
		{nil, api.ErrEmpty},
		{make([]int, 4097), api.ErrMany},
		{slices.Repeat([]int{-1}, 4097), api.ErrMany},
		{make([]int, 100000), api.ErrMany},
	}
	for _, n := range []int{-1, 257, math.MinInt, math.MaxInt} {
		l = append(l, given[[]int]{[]int{n}, api.ErrRange}, given[[]int]{[]int{n, 0, 0, 0, 0, 0}, api.ErrRange})
		l = append(l, given[[]int]{[]int{0, 0, 0, 0, 0, n}, api.ErrRange}, given[[]int]{append(make([]int, 4095), n), api.ErrRange})
	}
	return l
}

// keysFor are keys with their errors for a picture with 6 samples.
func keysFor() []given[[]int] {
	return append(keys(), given[[]int]{make([]int, 5), api.ErrShape}, given[[]int]{make([]int, 7), api.ErrShape}, given[[]int]{make([]int, 4096), api.ErrShape}, given[[]int]{[]int{256}, api.ErrShape})
}

// slopes are slopes with their errors.
func slopes() []given[mixer.Slope] {
	l := []given[mixer.Slope]{{mixer.Slope{}, api.ErrRange}, {mixer.Slope{Clip: 99999, Gain: 99999}, api.ErrRange}}
	for _, n := range numbers(-16384, 16384, api.ErrRange) {
		l = append(l, given[mixer.Slope]{mixer.Slope{Clip: n.v, Gain: 256}, n.e})
	}
	for _, n := range numbers(1, 4096, api.ErrRange) {
		l = append(l, given[mixer.Slope]{mixer.Slope{Clip: -5, Gain: n.v}, n.e})
	}
	return l
}

// wipes are wipes with their errors.
func wipes() []given[mixer.Wipe] {
	l := []given[mixer.Wipe]{
		{mixer.Wipe{Shape: "half"}, api.OK},
		{mixer.Wipe{Shape: "box", A: 1, B: 2, At: 3, Soft: 4}, api.OK},
		{mixer.Wipe{Shape: "diamond", A: -1, B: -2, At: -3, Soft: 4}, api.OK},
		{mixer.Wipe{}, api.ErrKind},
		{mixer.Wipe{A: 101, B: 101, At: 100001, Soft: -1}, api.ErrKind},
	}
	for _, shape := range []string{"", "Half", "half ", " half", "hal", "halfs", "boxes", "bo", "Diamond", "\xff", "0"} {
		l = append(l, given[mixer.Wipe]{mixer.Wipe{Shape: shape, A: 1, B: 2, At: 3, Soft: 4}, api.ErrKind})
	}
	for _, x := range []struct {
		low, high int
		slot      func(w *mixer.Wipe) *int
	}{
		{-100, 100, func(w *mixer.Wipe) *int { return &w.A }},
		{-100, 100, func(w *mixer.Wipe) *int { return &w.B }},
		{-100000, 100000, func(w *mixer.Wipe) *int { return &w.At }},
		{0, 100000, func(w *mixer.Wipe) *int { return &w.Soft }},
	} {
		for _, shape := range []string{"half", "box", "diamond"} {
			for _, n := range numbers(x.low, x.high, api.ErrRange) {
				w := mixer.Wipe{Shape: shape, A: 1, B: 2, At: 3, Soft: 4}
				*x.slot(&w) = n.v
				l = append(l, given[mixer.Wipe]{w, n.e})
			}
		}
	}
	return l
}
