package code_test

import (
	"math"
	"slices"
	"testing"

	"genlock/api"
	"genlock/code"
)

// P7.3
func TestCheckCadence(t *testing.T) {
	for _, x := range givenCadences() {
		want(t, x.v, results(code.CheckCadence(x.v)), x.e)
	}
}

// P7.3: example 5.
func TestPulled(t *testing.T) {
	for _, x := range []struct {
		repeats []int
		frames  int
		l       [][2]int
	}{
		{[]int{2, 3}, 4, [][2]int{{0, 0}, {1, 1}, {1, 2}, {2, 3}, {3, 3}}},
		{[]int{1}, 3, [][2]int{{0, 1}}},
		{[]int{1}, 4, [][2]int{{0, 1}, {2, 3}}},
		{[]int{1}, 1, nil},
		{[]int{2, 3}, 0, nil},
		{[]int{3}, 1, [][2]int{{0, 0}}},
		{[]int{3}, 2, [][2]int{{0, 0}, {0, 1}, {1, 1}}},
		{[]int{4, 1}, 3, [][2]int{{0, 0}, {0, 0}, {1, 2}, {2, 2}}},
		{[]int{1, 2, 3}, 5, [][2]int{{0, 1}, {1, 2}, {2, 2}, {3, 4}}},
	} {
		want(t, x, results(code.Pulled(x.repeats, x.frames)), x.l, api.OK)
	}
}

// P7.3
func TestPulledErrors(t *testing.T) {
	for _, x := range givenCadences() {
		for _, n := range numbers(0, 256, api.ErrRange) {
			wantError(t, results(x.v, n.v), results(code.Pulled(x.v, n.v)), firstError(x.e, n.e), [][2]int{})
		}
	}
	l, e := code.Pulled([]int{4}, 256)
	want(t, "the longest list", results(len(l), l[511], e), 512, [2]int{255, 255}, api.OK)
}

// P7.3: example 5.
func TestUndone(t *testing.T) {
	for _, x := range []struct {
		repeats []int
		l       [][2]int
		frames  int
		e       api.Errno
	}{
		{[]int{2, 3}, [][2]int{{0, 0}, {1, 1}, {1, 2}, {2, 3}, {3, 3}}, 4, api.OK},
		{[]int{2, 3}, [][2]int{{0, 0}, {1, 1}, {1, 2}}, 3, api.OK},
		{[]int{2, 3}, [][2]int{{0, 0}, {1, 1}}, 2, api.OK},
		{[]int{2, 3}, [][2]int{{0, 0}}, 1, api.OK},
		{[]int{1}, [][2]int{{0, 1}}, 2, api.OK},
		{[]int{1, 4}, nil, 0, api.OK},
		{[]int{4}, nil, 0, api.OK},
		{[]int{4}, [][2]int{{0, 0}}, 0, api.ErrProof},
		{[]int{4}, [][2]int{{0, 0}, {0, 0}}, 1, api.OK},
		{[]int{4}, [][2]int{{0, 0}, {0, 0}, {1, 1}}, 0, api.ErrProof},
		{[]int{2, 3}, [][2]int{{0, 0}, {1, 1}, {1, 2}, {2, 3}}, 0, api.ErrProof},
		{[]int{2, 3}, [][2]int{{0, 0}, {1, 1}, {2, 1}}, 0, api.ErrProof},
		{[]int{2, 3}, [][2]int{{0, 1}}, 0, api.ErrProof},
		{[]int{2, 3}, [][2]int{{1, 1}}, 0, api.ErrProof},
		{[]int{1}, [][2]int{{0, -1}}, 0, api.ErrProof},
		{[]int{1}, [][2]int{{math.MinInt, math.MaxInt}}, 0, api.ErrProof},
		{[]int{3}, [][2]int{{0, 0}, {0, 1}, {1, 1}}, 2, api.OK},
		{[]int{3}, [][2]int{{0, 0}, {0, 1}}, 0, api.ErrProof},
	} {
		want(t, x, results(code.Undone(x.repeats, x.l)), x.frames, x.e)
	}
}

// P7.3
func TestUndoneErrors(t *testing.T) {
	most := must[[][2]int](t)(code.Pulled([]int{4}, 256))
	want(t, "512 frames", results(code.Undone([]int{4}, most)), 256, api.OK)
	want(t, "512 frames", results(code.Undone([]int{4, 3}, most)), 0, api.ErrProof)
	want(t, "512 frames", results(code.Undone([]int{4}, make([][2]int, 512))), 0, api.ErrProof)
	want(t, "513 frames", results(code.Undone([]int{4}, append(most, [2]int{256, 256}))), 0, api.ErrMany)
	one := must[[][2]int](t)(code.Pulled([]int{1}, 256))
	want(t, "256 frames", results(code.Undone([]int{1}, one)), 256, api.OK)
	want(t, "257 frames", results(code.Undone([]int{2}, append(must[[][2]int](t)(code.Pulled([]int{2}, 256)), [2]int{256, 256}))), 0, api.ErrProof)
	want(t, "258 frames", results(code.Undone([]int{1}, append(one, [2]int{256, 257}))), 0, api.ErrProof)
	for _, x := range givenCadences() {
		wantError(t, x.v, results(code.Undone(x.v, nil)), x.e, 0)
		wantError(t, x.v, results(code.Undone(x.v, make([][2]int, 513))), firstError(x.e, api.ErrMany), 0)
		wantError(t, x.v, results(code.Undone(x.v, [][2]int{{-1, 0}})), firstError(x.e, api.ErrProof), 0)
	}
}

// pulledTo returns what frames are pulled to, as the chapter defines it: the frame of each field is the last one of which all fields before it begin up to there.
func pulledTo(repeats []int, frames int) [][2]int {
	begins := []int{0}
	for i := range frames {
		begins = append(begins, begins[i]+repeats[i%len(repeats)])
	}
	frameOf := func(field int) int {
		frame := 0
		for begins[frame+1] <= field {
			frame++
		}
		return frame
	}
	var l [][2]int
	for field := 0; field+1 < begins[frames]; field += 2 {
		l = append(l, [2]int{frameOf(field), frameOf(field + 1)})
	}
	return l
}

// P7.3: any cadence, and lists that are changed at one place.
func TestAnyCadence(t *testing.T) {
	d := dice(7)
	for range 1500 {
		repeats, frames := d.cadence(), d.between(0, 256)
		if d.below(3) > 0 {
			frames = d.below(20)
		}
		l := pulledTo(repeats, frames)
		want(t, results(repeats, frames), results(code.Pulled(repeats, frames)), l, api.OK)
		least := 0
		for len(pulledTo(repeats, least)) < len(l) {
			least++
		}
		want(t, results(repeats, l), results(code.Undone(repeats, l)), least, api.OK)
		if len(l) > 0 {
			changed := slices.Clone(l)
			changed[d.below(len(l))][d.below(2)] += []int{1, -1, 1 << 40}[d.below(3)]
			want(t, results(repeats, changed), results(code.Undone(repeats, changed)), 0, api.ErrProof)
		}
		part := l[:d.below(len(l)+1)]
		n, e := 0, api.ErrProof
		for i := range frames + 1 {
			if len(pulledTo(repeats, i)) == len(part) {
				n, e = i, api.OK
				break
			}
		}
		want(t, results(repeats, part), results(code.Undone(repeats, part)), n, e)
	}
}
