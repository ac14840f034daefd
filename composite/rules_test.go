package composite_test

import (
	"math"
	"slices"
	"strings"
	"testing"

	"genlock/api"
	"genlock/composite"
)

// The limits of the chapter.
func TestLimits(t *testing.T) {
	want(t, "limits", results(composite.MaxCycles, composite.MaxLines, composite.MaxTaps, composite.MaxTap, composite.MaxLimit, composite.Quarters), 64, 32, 8, 1000, 1<<20, 4)
}

// kept are arguments of all functions, and what they are.
type kept struct {
	parts composite.Parts
	list  []composite.Parts
	field [][]float32
	taps  []int
}

// arguments returns new ones that have a result in all functions.
func arguments() kept {
	return kept{
		parts: partsQ(),
		list:  []composite.Parts{partsQ(), partsP(), partsQ()},
		field: [][]float32{{1, 2, 3, 4, 5, 6, 7, 8}, {8, 7, 6, 5, 4, 3, 2, 1}, {1, 1, 2, 2, 3, 3, 4, 4}},
		taps:  []int{1, -1},
	}
}

// all returns the results of all functions that return lists; the lists of one call come together.
func all(k kept) map[string][][]float32 {
	l := map[string][][]float32{}
	one := func(name string, f func() ([]float32, api.Errno)) {
		signal, _ := f()
		l[name] = [][]float32{signal}
	}
	parts := func(name string, p ...composite.Parts) {
		for _, x := range p {
			l[name] = append(l[name], x.Luma, x.U, x.V)
		}
	}
	one("Encoded", func() ([]float32, api.Errno) { return composite.Encoded(k.parts, 0) })
	l["EncodedField"], _ = composite.EncodedField(k.list)
	p, _ := composite.Band(k.field[0], 0)
	parts("Band", p)
	p, _ = composite.Two(k.field, 0)
	parts("Two", p)
	p, _ = composite.Three(k.field, 1)
	parts("Three", p)
	decoded, _, _ := composite.Decoded(k.field, 1<<20)
	parts("Decoded", decoded...)
	one("Aligned", func() ([]float32, api.Errno) { return composite.Aligned(k.field[0], 0) })
	one("Clamped", func() ([]float32, api.Errno) { return composite.Clamped(k.field[0], api.Span{To: 1}, 1) })
	one("Filtered", func() ([]float32, api.Errno) { return composite.Filtered(k.field[0], []int{1}) })
	one("Back", func() ([]float32, api.Errno) { return composite.Back(k.field[0], k.taps) })
	l["Combed"], _ = composite.Combed(k.field, []int{1})
	l["Uncombed"], _ = composite.Uncombed(k.field, k.taps)
	p, _, _ = composite.Parse(textP)
	parts("Parse", p)
	return l
}

// Arguments are neither changed nor kept, and results share no memory with them or with each other.
func TestMemory(t *testing.T) {
	k := arguments()
	first, second := all(k), all(k)
	want(t, "arguments", results(k), arguments())
	for name, lists := range first {
		for i, l := range lists {
			if len(l) == 0 {
				t.Errorf("%s: an empty list", name)
			}
			for j := range l {
				l[j] = 77
			}
			_ = append(l, 77) // what follows a list is not another one either
			for _, other := range slices.Concat(lists[i+1:], second[name]) {
				if slices.Contains(other, 77) {
					t.Errorf("%s: two lists share memory", name)
				}
			}
		}
	}
	want(t, "arguments after a change of the results", results(k), arguments())
	for _, l := range slices.Concat(k.field, [][]float32{k.parts.Luma, k.parts.U, k.parts.V}) {
		clear(l)
	}
	for name, lists := range all(arguments()) {
		want(t, name, results(second[name]), lists)
	}
}

// Other lists of results are new ones, too.
func TestMemoryOfOtherLists(t *testing.T) {
	k := arguments()
	for range 2 { // the second time all is as it was
		panels, e := composite.Panels(k.field[0])
		want(t, "Panels", results(panels, e), [][4]complex64{{10, -2 + 2i, -2, -2 - 2i}, {26, -2 + 2i, -2, -2 - 2i}}, api.OK)
		_, three, e := composite.Decoded(k.field, 1<<20)
		want(t, "Decoded", results(three, e), [][]bool{{false, false}, {true, true}, {false, false}}, api.OK)
		response, e := composite.Response(k.taps)
		want(t, "Response", results(response, e), [4]complex128{0, 1 + 1i, 2, 1 - 1i}, api.OK)
		clear(panels)
		for _, l := range three {
			clear(l)
		}
	}
	want(t, "arguments", results(k), arguments())
}

// P1: no function panics, for strange arguments.
func TestAllArguments(t *testing.T) {
	numbers := []int{math.MinInt, -1, 0, 1, 2, 3, 4, 31, 32, 1000, math.MaxInt}
	for _, p := range partses() {
		for _, q := range partses() {
			composite.EncodedField([]composite.Parts{p.v, q.v, p.v})
		}
		for _, n := range numbers {
			composite.Encoded(p.v, n)
		}
	}
	for _, l := range signals() {
		for _, n := range numbers {
			composite.Band(l.v, n)
			composite.Aligned(l.v, n)
			composite.Filtered(l.v, []int{n, -n})
			composite.Back(l.v, []int{n, -n})
			for _, m := range numbers {
				composite.Clamped(l.v, api.Span{From: n, To: m}, 1024)
			}
		}
	}
	for _, l := range fields() {
		for _, n := range numbers {
			composite.Two(l.v, n)
			composite.Three(l.v, n)
			composite.Decoded(l.v, n)
			composite.Combed(l.v, []int{n, -n})
			composite.Uncombed(l.v, []int{n, -n})
		}
	}
}

// P1: texts without a form.
func TestAllTexts(t *testing.T) {
	d := dice(11)
	for range 5000 {
		s := []byte(textP)
		for range 1 + d.below(4) {
			s[d.below(len(s))] = " \nlumav-0193\xff"[d.below(13)]
		}
		s = s[:d.below(len(s)+1)]
		p, at, e := composite.Parse(string(s))
		switch {
		case e == api.OK:
			want(t, string(s), results(composite.Print(p)), string(s), api.OK)
			want(t, string(s), results(at, composite.CheckParts(p)), 0, api.OK)
		case len(p.Luma)+len(p.U)+len(p.V) > 0 || at < 0 || at > 1+strings.Count(string(s), "\n"):
			t.Errorf("%q: got %v, %d, %d", s, p, at, e)
		}
	}
}
