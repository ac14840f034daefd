package composite_test

import (
	"math"
	"slices"
	"testing"

	"genlock/api"
	"genlock/composite"
)

// threeLines are those of the chapter's examples: each number of Q is greater by 1 in the line 1, and by 2 in the line 2, and U is 3, 4 and 5.
func threeLines() []composite.Parts {
	return []composite.Parts{
		partsQ(),
		{Luma: []float32{11, 21, 15, 21}, U: []float32{4}, V: []float32{-2}},
		{Luma: []float32{12, 22, 16, 22}, U: []float32{5}, V: []float32{-2}},
	}
}

// P3.2
func TestBand(t *testing.T) {
	want(t, "an even line", results(composite.Band([]float32{13, 18, 7, 22}, 0)), partsP(), api.OK)
	want(t, "an odd line", results(composite.Band([]float32{7, 22, 13, 18}, 31)), partsP(), api.OK)
	want(t, "Q", results(composite.Band([]float32{13, 18, 11, 22}, 0)), composite.Parts{Luma: []float32{12, 20, 12, 20}, U: []float32{1}, V: []float32{-2}}, api.OK)
	want(t, "nothing", results(composite.Band(nil, 10000000)), composite.Parts{}, api.OK)
	want(t, "zeros", results(composite.Band([]float32{minus0, 0, 0, minus0}, 1)), silent(1), api.OK)
	for _, x := range []struct {
		signal   []int
		line     int
		luma     []int
		u0, v, w int // U, V and the V of a second cycle
	}{
		{[]int{1, 0, 0, 0, 0, 3, 0, 0}, 0, []int{0, 0, 1, 0, 0, 1, 0, 2}, 1, 0, 2},
		{[]int{1, 0, 0, 0, 0, 3, 0, 0}, 1, []int{1, 0, 0, 0, 0, 2, 0, 1}, 0, 0, -1},
		{[]int{0, 0, 1, 3, 0, 0, 0, 3}, 0, []int{0, 1, 1, 2, 0, 1, 0, 2}, 0, -1, -1},
		{[]int{0, 0, 1, 3, 0, 0, 0, 3}, 1, []int{1, 2, 0, 1, 0, 2, 0, 1}, 1, 2, 2},
		{[]int{16384, -16384, -16384, 16384, 0, 16384, 0, 16383}, 0, []int{0, 0, 0, 0, 0, 16383, 0, 16384}, 16384, -16384, 1},
		{[]int{16384, -16384, -16384, 16384, 0, -16384, 0, -16383}, 1, []int{0, 0, 0, 0, 0, -16383, 0, -16384}, -16384, 16384, 1},
	} {
		want(t, x, results(composite.Band(samples(x.signal...), x.line)), composite.Parts{Luma: samples(x.luma...), U: samples(x.u0, 0), V: samples(x.v, x.w)}, api.OK)
	}
}

// P3.2
func TestTwo(t *testing.T) {
	field := [][]float32{{13, 18, 11, 22}, {7, 22, 17, 18}}
	want(t, "the first line", results(composite.Two(field, 0)), partsQ(), api.OK)
	want(t, "the last line", results(composite.Two(field, 1)), partsQ(), api.OK)
	want(t, "empty lines", results(composite.Two(make([][]float32, 2), 1)), composite.Parts{}, api.OK)
	// each line but the last one uses the one after it
	longer := [][]float32{samples(8, 0, 0, 0), samples(0, 0, 0, 0), samples(0, 40, 0, 0), samples(1, 0, 0, 6)}
	for line, p := range []composite.Parts{
		{Luma: samples(4, 0, 0, 0), U: samples(2), V: samples(0)},
		{Luma: samples(0, 20, 0, 0), U: samples(0), V: samples(10)},
		{Luma: samples(1, 20, 0, 3), U: samples(0), V: samples(12)}, // -1 and 46, by 4
		{Luma: samples(1, 20, 0, 3), U: samples(0), V: samples(12)}, // -1 and 46 again
	} {
		want(t, line, results(composite.Two(longer, line)), p, api.OK)
	}
	// halves and fourth parts are rounded, from the middle to the greater one
	for _, x := range []struct{ d, even, odd int }{{1, 0, 0}, {2, 1, 0}, {3, 1, -1}, {5, 1, -1}, {6, 2, -1}, {-2, 0, 1}, {-3, -1, 1}, {-6, -1, 2}, {16384, 4096, -4096}} {
		lines := [][]float32{samples(0, 0, 0, 0), samples(0, 0, 0, 0), samples(x.d, 0, 0, 0), samples(0, 0, 0, 0)}
		half := int(math.Floor(float64(x.d+1) / 2))
		want(t, x, results(composite.Two(lines, 2)), composite.Parts{Luma: samples(half, 0, 0, 0), U: samples(x.even), V: samples(0)}, api.OK)
		lines[1], lines[2] = lines[2], lines[1]
		want(t, x, results(composite.Two(lines, 1)), composite.Parts{Luma: samples(half, 0, 0, 0), U: samples(x.odd), V: samples(0)}, api.OK)
	}
	extreme := [][]float32{{1024, 1024, -1024, -1024}, {-1024, -1024, 1024, 1024}}
	want(t, "the greatest differences", results(composite.Two(extreme, 0)), composite.Parts{Luma: make([]float32, 4), U: []float32{1024}, V: []float32{1024}}, api.OK)
	want(t, "the greatest differences", results(composite.Two(extreme, 1)), composite.Parts{Luma: make([]float32, 4), U: []float32{1024}, V: []float32{1024}}, api.OK)
}

// P3.2
func TestThree(t *testing.T) {
	field, e := composite.EncodedField(threeLines())
	want(t, "the field", results(field, e), [][]float32{{13, 18, 11, 22}, {7, 23, 19, 19}, {17, 20, 11, 24}}, api.OK)
	want(t, "the middle line", results(composite.Three(field, 1)), threeLines()[1], api.OK)
	want(t, "empty lines", results(composite.Three(make([][]float32, 3), 1)), composite.Parts{}, api.OK)
	// eighth parts are rounded, from the middle to the greater one
	for _, x := range []struct{ d, even, odd int }{{3, 0, 0}, {4, 1, 0}, {5, 1, -1}, {11, 1, -1}, {12, 2, -1}, {-4, 0, 1}, {-5, -1, 1}, {-12, -1, 2}} {
		zeros := samples(0, 0, 0, 0)
		lines := [][]float32{zeros, zeros, zeros, samples(0, 0, x.d, 0), zeros}
		want(t, x, results(composite.Three(lines, 2)), composite.Parts{Luma: samples(-x.even, 0, x.even, 0), U: samples(x.even), V: samples(0)}, api.OK)
		want(t, x, results(composite.Three(lines[1:], 1)), composite.Parts{Luma: samples(x.odd, 0, -x.odd, 0), U: samples(x.odd), V: samples(0)}, api.OK)
	}
}

// largeField is a field whose line 1 has no samples by three lines, with the distance 1/16 between the lines beside it.
func largeField() [][]float32 {
	return [][]float32{{1024, 0, -1024, 0}, {1024, 0, 1024, 0}, {1024, 0, -1024, -0.0625}}
}

// P3.2: a luma that is no sample, and what was not chosen.
func TestDecodedTooLarge(t *testing.T) {
	want(t, "Three", results(composite.Three(largeField(), 1)), composite.Parts{}, api.ErrLarge)
	want(t, "chosen", results(composite.Decoded(largeField(), 1)), []composite.Parts(nil), [][]bool(nil), api.ErrLarge)
	l, three, e := composite.Decoded(largeField(), 0)
	want(t, "not chosen", results(l[1], three, e), composite.Parts{Luma: []float32{1024, 0, 1024, 0}, U: []float32{0}, V: []float32{0}}, [][]bool{{false}, {false}, {false}}, api.OK)
	smaller := [][]float32{{512, 0, -512, 0}, {768, 0, 768, 0}, {512, 0, -512, 0}}
	want(t, "1024", results(composite.Three(smaller, 1)), composite.Parts{Luma: []float32{1024, 0, 512, 0}, U: []float32{256}, V: []float32{0}}, api.OK)
	smaller[1][0] = 768.0625
	want(t, "above 1024", results(composite.Three(smaller, 1)), composite.Parts{}, api.ErrLarge)
}

// P3.2
func TestDecoded(t *testing.T) {
	zeros, own := samples(0, 0, 0, 0, 0, 0, 0, 0), samples(8, 0, 0, 0, 8, 0, 0, 0)
	field := [][]float32{zeros, own, samples(0, 1, -2, 4, 1, 0, 0, 0), zeros}
	one := func(luma []float32, u, v int) composite.Parts {
		return composite.Parts{Luma: luma, U: samples(u), V: samples(v)}
	}
	ends := []composite.Parts{one(zeros[:4], 0, 0), one(samples(4, 0, 4, 0), -4, 0), one(samples(-1, 2, -1, 3), 1, -1), one(zeros[:4], 0, 0)}
	for _, x := range []struct {
		limit int
		three [4][2]bool
	}{
		{0, [4][2]bool{}},
		{1, [4][2]bool{1: {false, true}}},
		{6, [4][2]bool{1: {false, true}}},
		{7, [4][2]bool{1: {true, true}}},
		{8, [4][2]bool{1: {true, true}, 2: {true, true}}},
		{1 << 20, [4][2]bool{1: {true, true}, 2: {true, true}}},
	} {
		l, three, e := composite.Decoded(field, x.limit)
		want(t, x, results(three, e), x.three, api.OK)
		for line, p := range l {
			var parts [2]composite.Parts
			parts[0] = must[composite.Parts](t)(composite.Band(field[line], line))
			parts[1] = parts[0]
			if line == 1 || line == 2 {
				parts[1] = must[composite.Parts](t)(composite.Three(field, line))
			}
			for c, chosen := range three[line] {
				from := parts[0]
				if chosen {
					from = parts[1]
				}
				want(t, results(x, line, c), results(p.Luma[4*c:4*c+4], p.U[c], p.V[c]), from.Luma[4*c:4*c+4], from.U[c], from.V[c])
			}
			if x.limit == 0 {
				want(t, results(x, line), results(p.Luma[:4], p.U[:1], p.V[:1]), ends[line].Luma, ends[line].U, ends[line].V)
			}
		}
	}
	want(t, "no line", results(composite.Decoded(nil, 0)), []composite.Parts(nil), [][]bool(nil), api.OK)
	want(t, "empty lines", results(composite.Decoded(make([][]float32, 3), 0)), make([]composite.Parts, 3), make([][]bool, 3), api.OK)
	want(t, "one line", results(composite.Decoded([][]float32{{13, 18, 7, 22}}, 1<<20)), []composite.Parts{partsP()}, [][]bool{{false}}, api.OK)
	chapter, _ := composite.EncodedField(threeLines())
	l, three, e := composite.Decoded(chapter, 16*(4+2+0+2))
	want(t, "the chapter's lines", results(l[1], three, e), threeLines()[1], [][]bool{{false}, {true}, {false}}, api.OK)
	l, three, e = composite.Decoded(chapter, 16*(4+2+0+2)-1)
	want(t, "the chapter's lines", results(l[1], three, e), must[composite.Parts](t)(composite.Band(chapter[1], 1)), [][]bool{{false}, {false}, {false}}, api.OK)
}

// rounded returns num / den, rounded to the nearest integer, from the middle to the greater one; den is a power of 2.
func rounded(num, den int) int { return int(math.Floor(float64(num)/float64(den) + 0.5)) }

// colours returns the colour differences of cycles by their definition: the sign times the differences of the samples 0 and 2, and 1 and 3, by den.
func colours(d []int, line, den int) (u, v []int) {
	sign := 1 - line%2*2
	for at := 0; at < len(d); at += 4 {
		u = append(u, rounded(sign*(d[at]-d[at+2]), den))
		v = append(v, rounded(sign*(d[at+1]-d[at+3]), den))
	}
	return u, v
}

// without returns a signal less its carrier, and the colour differences.
func without(l []float32, line int, u, v []int) composite.Parts {
	luma := levels(l)
	sign := 1 - line%2*2
	for i := range luma {
		luma[i] -= sign * [4]int{u[i/4], v[i/4], -u[i/4], -v[i/4]}[i%4]
	}
	return composite.Parts{Luma: samples(luma...), U: samples(u...), V: samples(v...)}
}

// P3.2: all three ways to decode, by their definitions.
func TestDecodingByDefinition(t *testing.T) {
	d := dice(1)
	for range 200 {
		most := []int{3, 40, 8000}[d.below(3)]
		field := d.field(2+d.below(5), 1+d.below(5), most)
		for line, own := range field {
			u, v := colours(levels(own), line, 2)
			want(t, results(field, line), results(composite.Band(own, line)), without(own, line, u, v), api.OK)
			beside := line + 1
			if beside == len(field) {
				beside = line - 1
			}
			var mean, two, three []int
			for i, x := range own {
				n, other := int(16*x), int(16*field[beside][i])
				mean, two = append(mean, rounded(n+other, 2)), append(two, n-other)
				if line > 0 && line < len(field)-1 {
					three = append(three, int(32*x)-int(16*field[line-1][i])-int(16*field[line+1][i]))
				}
			}
			u, v = colours(two, line, 4)
			want(t, results(field, line), results(composite.Two(field, line)), composite.Parts{Luma: samples(mean...), U: samples(u...), V: samples(v...)}, api.OK)
			if three != nil {
				u, v = colours(three, line, 8)
				want(t, results(field, line), results(composite.Three(field, line)), without(own, line, u, v), api.OK)
			}
		}
	}
}

// P3.2
func TestFlatAndBound(t *testing.T) {
	for _, x := range []struct {
		luma  []int
		flat  bool
		bound int
	}{
		{nil, true, 0},
		{[]int{160, 320, 160, 320}, true, 0},
		{[]int{160, 320, 224, 320}, false, 32},
		{[]int{1, 2, 1, 2, 7, 8, 7, 8}, true, 0},
		{[]int{1, 2, 1, 2, 7, 8, 7, 9}, false, 1},
		{[]int{1, 2, 1, 2, 8, 8, 6, 8}, false, 1},
		{[]int{1, 2, 1, 2, 8, 8, 5, 8}, false, 2},
		{[]int{1, 2, 3, 2, 8, 9, 8, 0}, false, 5},
		{[]int{0, 9, 0, 0, 1, 1, 1, 1}, false, 5},
		{[]int{16384, 0, -16384, 0}, false, 16384},
		{[]int{0, -16384, 0, 16384}, false, 16384},
		{[]int{0, -16384, 0, 16383}, false, 16384},
		{[]int{0, -16384, 0, 16382}, false, 16383},
	} {
		p := composite.Parts{Luma: samples(x.luma...), U: make([]float32, len(x.luma)/4), V: slices.Repeat([]float32{1024}, len(x.luma)/4)}
		want(t, x, results(composite.Flat(p)), x.flat, api.OK)
		want(t, x, results(composite.Bound(p)), float32(x.bound)/16, api.OK)
	}
	zeros := silent(1)
	zeros.Luma[0] = minus0
	want(t, "zeros", results(composite.Flat(zeros)), true, api.OK)
	want(t, "zeros", results(composite.Bound(zeros)), float32(0), api.OK)
}

// P3.2
func TestDiffers(t *testing.T) {
	band := composite.Parts{Luma: []float32{12, 20, 12, 20}, U: []float32{1}, V: []float32{-2}}
	want(t, "the chapter's parts", results(composite.Differs(partsQ(), band)), [2]float32{2, 2}, api.OK)
	want(t, "the same", results(composite.Differs(partsQ(), partsQ())), [2]float32{}, api.OK)
	want(t, "nothing", results(composite.Differs(composite.Parts{}, composite.Parts{})), [2]float32{}, api.OK)
	for _, x := range []struct {
		at, a, b int
		differs  [2]float32
		e        api.Errno
	}{
		{0, 5, 8, [2]float32{0.1875, 0}, api.OK},
		{7, -5, 8, [2]float32{0.8125, 0}, api.OK},
		{8, 5, -8, [2]float32{0, 0.8125}, api.OK},
		{9, 5, 8, [2]float32{0, 0.1875}, api.OK},
		{10, 5, 8, [2]float32{0, 0.1875}, api.OK},
		{11, 8, 5, [2]float32{0, 0.1875}, api.OK},
		{3, 8192, -8192, [2]float32{1024, 0}, api.OK},
		{3, 8192, -8193, [2]float32{}, api.ErrLarge},
		{3, -8193, 8192, [2]float32{}, api.ErrLarge},
		{8, 8192, -8192, [2]float32{0, 1024}, api.OK},
		{8, 8192, -8193, [2]float32{}, api.ErrLarge},
		{11, -16384, 16384, [2]float32{}, api.ErrLarge},
	} {
		var p [2]composite.Parts
		for i, n := range []int{x.a, x.b} {
			all := make([]int, 12)
			all[x.at] = n
			p[i] = composite.Parts{Luma: samples(all[:8]...), U: samples(all[8:10]...), V: samples(all[10:]...)}
		}
		want(t, x, results(composite.Differs(p[0], p[1])), x.differs, x.e)
	}
	large, larger := silent(1), silent(2)
	large.Luma[0], larger.Luma[0] = 1024, -1024
	want(t, "other lengths", results(composite.Differs(large, larger)), [2]float32{}, api.ErrShape)
	a := composite.Parts{Luma: samples(1, 2, 3, 4), U: samples(5), V: samples(6)}
	b := composite.Parts{Luma: samples(2, 4, -1, 7), U: samples(-5), V: samples(-6)}
	want(t, "the greatest ones", results(composite.Differs(a, b)), [2]float32{0.25, 0.75}, api.OK)
}

// P3.2: the errors of the arguments, from left to right.
func TestErrorsOfDecoding(t *testing.T) {
	for _, l := range signals() {
		for _, line := range numbers(0, 10000000) {
			wantError(t, results(l.v, line.v), results(composite.Band(l.v, line.v)), firstError(l.e, line.e), composite.Parts{})
		}
	}
	for _, l := range fields() {
		for _, line := range []int{0, 1, 2, 3, 31, 32, len(l.v) - 1, len(l.v), -1, math.MinInt, math.MaxInt} {
			e, short, outside := l.e, api.OK, api.OK
			if line < 0 || line >= len(l.v) {
				e = firstError(e, api.ErrUnknown)
			}
			if len(l.v) == 1 {
				short = api.ErrShort
			}
			if line == 0 || line == len(l.v)-1 {
				outside = api.ErrSpan
			}
			wantError(t, results(l.v, line), results(composite.Two(l.v, line)), firstError(e, short), composite.Parts{})
			wantError(t, results(l.v, line), results(composite.Three(l.v, line)), firstError(e, outside), composite.Parts{})
		}
		for _, limit := range numbers(0, 1<<20) {
			wantError(t, results(l.v, limit.v), results(composite.Decoded(l.v, limit.v)), firstError(l.e, limit.e), []composite.Parts(nil), [][]bool(nil))
		}
	}
	for _, a := range partses() {
		wantError(t, a.v, results(composite.Flat(a.v)), a.e, false)
		wantError(t, a.v, results(composite.Bound(a.v)), a.e, float32(0))
		for _, b := range partses() {
			e := firstError(a.e, b.e)
			if len(a.v.Luma) != len(b.v.Luma) {
				e = firstError(e, api.ErrShape)
			}
			wantError(t, results(a.v, b.v), results(composite.Differs(a.v, b.v)), e, [2]float32{})
		}
	}
}
