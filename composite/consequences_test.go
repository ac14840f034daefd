package composite_test

import (
	"slices"
	"testing"

	"genlock/api"
	"genlock/composite"
)

// P3.6 and P3: parts that are encoded and decoded by the line itself differ by at most their bound, and not at all if the line is flat.
func TestBandIsWithinTheBound(t *testing.T) {
	d := dice(5)
	flats := 0
	for i := range 1000 {
		p := d.parts(d.below(6), []int{1, 5, 400, 8192}[i%4])
		for at := range p.Luma {
			if i%3 == 0 && at%4 >= 2 { // a flat line
				p.Luma[at] = p.Luma[at-2]
			}
		}
		line := d.below(100)
		decoded := must[composite.Parts](t)(composite.Band(must[[]float32](t)(composite.Encoded(p, line)), line))
		bound := must[float32](t)(composite.Bound(p))
		differs := must[[2]float32](t)(composite.Differs(p, decoded))
		if differs[0] > bound || differs[1] > bound {
			t.Errorf("%v in the line %d: differs by %v, above the bound %v", p, line, differs, bound)
		}
		flat := must[bool](t)(composite.Flat(p))
		want(t, p, results(flat), bound == 0)
		if flat {
			want(t, results(p, line), results(decoded, differs), p, [2]float32{})
			flats++
		}
	}
	if flats < 300 {
		t.Errorf("only %d flat lines", flats)
	}
}

// P3.6 and P3: two equal lines, one after the other, are decoded exactly by two lines.
func TestEqualLinesByTwo(t *testing.T) {
	d := dice(6)
	for range 300 {
		p, other := d.parts(3, 8192), d.parts(3, 8192)
		field := must[[][]float32](t)(composite.EncodedField([]composite.Parts{other, p, p, other, other}))
		for line, parts := range map[int]composite.Parts{1: p, 3: other, 4: other} {
			want(t, results(p, other, line), results(composite.Two(field, line)), parts, api.OK)
		}
	}
}

// between returns parts with the numbers of p, and so many times those of step more.
func between(p, step composite.Parts, times int) composite.Parts {
	plus := func(a, b []float32) []float32 {
		l := slices.Clone(a)
		for i, x := range b {
			l[i] += float32(times) * x
		}
		return l
	}
	return composite.Parts{Luma: plus(p.Luma, step.Luma), U: plus(p.U, step.U), V: plus(p.V, step.V)}
}

// P3.6 and P3: lines in the middle of their neighbours are decoded exactly by three lines.
func TestMiddleLinesByThree(t *testing.T) {
	d := dice(7)
	for range 300 {
		p, step := d.parts(3, 4000), d.parts(3, 1000)
		var lines []composite.Parts
		for times := range 5 {
			lines = append(lines, between(p, step, times))
		}
		field := must[[][]float32](t)(composite.EncodedField(lines))
		all, three, e := composite.Decoded(field, 1<<20)
		want(t, "Decoded", results(e), api.OK)
		for line := 1; line < 4; line++ {
			want(t, results(p, step, line), results(composite.Three(field, line)), lines[line], api.OK)
			want(t, results(p, step, line), results(all[line], three[line]), lines[line], []bool{true, true, true})
		}
	}
}

// P3.6: what is decoded by the line itself, or by three lines, is encoded to the signal again.
func TestSignalsComeBack(t *testing.T) {
	d := dice(8)
	for i := range 300 {
		field := d.field(4, 3, []int{3, 60, 8000}[i%3])
		all, _, e := composite.Decoded(field, d.below(300000))
		want(t, "Decoded", results(e), api.OK)
		want(t, field, results(composite.EncodedField(all)), field, api.OK)
		for line, signal := range field {
			band := must[composite.Parts](t)(composite.Band(signal, line))
			want(t, results(field, line), results(composite.Encoded(band, line)), signal, api.OK)
			if line == 1 || line == 2 {
				three := must[composite.Parts](t)(composite.Three(field, line))
				want(t, results(field, line), results(composite.Encoded(three, line)), signal, api.OK)
			}
		}
	}
	for i := range 200 { // the line itself never asks for more than a sample
		signal := d.signal(64, 16384)
		for at := range signal {
			if x := d.below(4); x < 2 {
				signal[at] = float32(2048*x - 1024)
			}
		}
		band := must[composite.Parts](t)(composite.Band(signal, i))
		want(t, signal, results(composite.Encoded(band, i)), signal, api.OK)
	}
}

// P3.6: parts are parsed as they were printed.
func TestTextsComeBack(t *testing.T) {
	d := dice(9)
	for range 200 {
		p := d.parts(d.below(65), 16384)
		text := must[string](t)(composite.Print(p))
		want(t, text, results(composite.Parse(text)), p, 0, api.OK)
	}
}

// P3.3: a burst of the carrier that begins late by some samples is aligned by as many.
func TestLateSignalsAreAligned(t *testing.T) {
	d := dice(10)
	for range 100 {
		p := silent(4)
		level := float32(1+d.below(8000)) / 16
		for c := range p.U {
			p.U[c] = level
		}
		even := must[[]float32](t)(composite.Encoded(p, 0))
		for late := range 4 {
			signal := slices.Concat(even[4-late:4], even)[:16]
			q := must[int](t)(composite.Locked([4]float32(signal), 1))
			want(t, results(level, late), results(q), late)
			want(t, results(level, late), results(composite.Aligned(signal, q)), even[:16-min(late, 1)*4], api.OK)
		}
	}
}
