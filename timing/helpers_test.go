package timing_test

import (
	"fmt"
	"math"
	"slices"
	"testing"

	"genlock/api"
	"genlock/timing"
)

// The tests use the exported functions alone, so that they hold for every implementation of the chapter.

// maxTime is the last tick.
const maxTime = 10000000

// results returns the results of a call as a list.
func results(l ...any) []any { return l }

// want compares the results of a call with the expected ones; nil and empty lists are equal.
func want(t *testing.T, what any, got []any, wanted ...any) {
	t.Helper()
	if g, w := fmt.Sprintf("%+v", got), fmt.Sprintf("%+v", wanted); g != w {
		t.Errorf("%+v: got %s, want %s", what, g, w)
	}
}

// wantError compares the error of a call, its last result, with the expected one; beside an error all other results are zero values.
func wantError(t *testing.T, what any, got []any, e api.Errno, zero ...any) {
	t.Helper()
	if e == api.OK {
		got, zero = got[len(got)-1:], nil
	}
	want(t, what, got, append(slices.Clone(zero), e)...)
}

// must returns a result that has no error.
func must[T any](t *testing.T) func(x T, e api.Errno) T {
	return func(x T, e api.Errno) T {
		t.Helper()
		if e != api.OK {
			t.Fatalf("error %d", e)
		}
		return x
	}
}

// given is an argument, and its error.
type given[T any] struct {
	v T
	e api.Errno
}

// firstError returns the first error of some, or OK.
func firstError(l ...api.Errno) api.Errno {
	for _, e := range l {
		if e != api.OK {
			return e
		}
	}
	return api.OK
}

// numbers are the least and the greatest number of a range, some outside of it, and their errors.
func numbers(low, high int, e api.Errno) []given[int] {
	return []given[int]{{low, api.OK}, {high, api.OK}, {low - 1, e}, {high + 1, e}, {math.MinInt, e}, {math.MaxInt, e}}
}

// dice are numbers that are the same in every run.
type dice uint64

func (d *dice) below(n int) int {
	*d = *d*6364136223846793005 + 1442695040888963407
	return int(uint64(*d) >> 33 % uint64(n))
}

// formatF is that of the chapter's examples.
func formatF() timing.Format {
	return timing.Format{Samples: 10, Lines: 5, Fields: 2, Blank: 3, Sync: 1, Vertical: 1, Cycle: 4}
}

// rightFormats are formats of all kinds: with one and two fields, with odd and even numbers of lines, with the least and the greatest numbers.
func rightFormats() []timing.Format {
	return []timing.Format{
		formatF(),
		{Samples: 2, Lines: 2, Fields: 1, Blank: 1, Sync: 1, Vertical: 1, Cycle: 1},
		{Samples: 2, Lines: 2, Fields: 2, Blank: 1, Sync: 1, Vertical: 1, Cycle: 8},
		{Samples: 3, Lines: 3, Fields: 2, Blank: 2, Sync: 1, Vertical: 1, Cycle: 3},
		{Samples: 7, Lines: 4, Fields: 1, Blank: 3, Sync: 2, Vertical: 2, Cycle: 5},
		{Samples: 4, Lines: 6, Fields: 2, Blank: 2, Sync: 2, Vertical: 3, Cycle: 4},
		{Samples: 4, Lines: 7, Fields: 2, Blank: 3, Sync: 1, Vertical: 3, Cycle: 7},
		{Samples: 5, Lines: 3, Fields: 1, Blank: 4, Sync: 4, Vertical: 3, Cycle: 2},
		{Samples: 2000, Lines: 3, Fields: 2, Blank: 1999, Sync: 1999, Vertical: 1, Cycle: 8},
		{Samples: 2, Lines: 2000, Fields: 1, Blank: 1, Sync: 1, Vertical: 2000, Cycle: 6},
	}
}

// formats are formats with their errors.
func formats() []given[timing.Format] {
	var l []given[timing.Format]
	for _, f := range rightFormats() {
		l = append(l, given[timing.Format]{f, api.OK})
	}
	l = append(l, given[timing.Format]{timing.Format{}, api.ErrRange})
	l = append(l, given[timing.Format]{timing.Format{Samples: 2000, Lines: 2000, Fields: 2, Blank: 1999, Sync: 1999, Vertical: 1000, Cycle: 8}, api.OK})
	wrong := func(change func(f *timing.Format, n int), l ...int) []given[timing.Format] {
		var all []given[timing.Format]
		for _, n := range append(l, 0, -1, math.MinInt, math.MaxInt) {
			f := formatF()
			change(&f, n)
			all = append(all, given[timing.Format]{f, api.ErrRange})
		}
		return all
	}
	return slices.Concat(l,
		wrong(func(f *timing.Format, n int) { f.Samples = n }, 1, 2, 3, 2001), // with 2 and 3 samples, Blank is too great
		wrong(func(f *timing.Format, n int) { f.Lines = n }, 1, 2001),
		wrong(func(f *timing.Format, n int) { f.Fields = n }, 3, -2),
		wrong(func(f *timing.Format, n int) { f.Blank = n }, 10, 11),
		wrong(func(f *timing.Format, n int) { f.Sync = n }, 4, 10),
		wrong(func(f *timing.Format, n int) { f.Vertical = n }, 3, 5),
		wrong(func(f *timing.Format, n int) { f.Cycle = n }, 9),
		wrong(func(f *timing.Format, n int) { f.Fields, f.Vertical = 1, n }, 6),
		wrong(func(f *timing.Format, n int) { f.Lines, f.Vertical = 2, n }, 2),
	)
}

// walk visits the ticks of some frames, from the tick 0 on, with their positions.
func walk(f timing.Format, frames int, visit func(tick int, p timing.Position)) {
	lines := []int{f.Lines}
	if f.Fields == 2 {
		lines = []int{f.Lines - f.Lines/2, f.Lines / 2}
	}
	tick := 0
	for frame := range frames {
		for field := range lines {
			for line := range lines[field] {
				for sample := range f.Samples {
					visit(tick, timing.Position{Frame: frame, Field: field, Line: line, Sample: sample})
					tick++
				}
			}
		}
	}
}

// net returns a net of nodes, the first ones of these names, and edges.
func net(nodes int, edges ...timing.Edge) timing.Net {
	names := []string{"ref", "cam", "tape", "mix", "e", "f", "g", "h", "i", "j", "k", "l", "m"}
	return timing.Net{Nodes: names[:nodes], Edges: edges}
}

// netN is that of the chapter's examples; its first edge has a greatest delay.
func netN(high int) timing.Net {
	return net(4, timing.Edge{From: 0, To: 1, Low: 0, High: high}, timing.Edge{From: 1, To: 3, Low: 50, High: 60}, timing.Edge{From: 0, To: 2, Low: 20, High: 20}, timing.Edge{From: 2, To: 3, Low: 80, High: 90})
}

// edges are edges with the errors that they have in a net of four nodes.
func edges() []given[timing.Edge] {
	l := []given[timing.Edge]{
		{timing.Edge{From: 0, To: 3, Low: 0, High: 0}, api.OK},
		{timing.Edge{From: 3, To: 0, Low: 100000, High: 100000}, api.OK},
		{timing.Edge{From: 2, To: 1, Low: 0, High: 100000}, api.OK},
		{timing.Edge{From: 9, To: 9, Low: 5, High: 4}, api.ErrUnknown},
		{timing.Edge{From: 1, To: 4, Low: -1, High: -2}, api.ErrUnknown},
		{timing.Edge{From: 2, To: 2, Low: 5, High: 4}, api.ErrConflict},
		{timing.Edge{From: 0, To: 0, Low: -1, High: 4}, api.ErrConflict},
		{timing.Edge{}, api.ErrConflict},
		{timing.Edge{From: 0, To: 1, Low: 5, High: 4}, api.ErrOrder},
		{timing.Edge{From: 0, To: 1, Low: 100000, High: 99999}, api.ErrOrder},
		{timing.Edge{From: 0, To: 1, Low: 100001, High: 100000}, api.ErrRange},
		{timing.Edge{From: 0, To: 1, Low: 0, High: -1}, api.ErrRange},
		{timing.Edge{From: 0, To: 1, Low: math.MinInt, High: math.MaxInt}, api.ErrRange},
		{timing.Edge{From: 0, To: 1, Low: math.MaxInt, High: math.MinInt}, api.ErrRange},
	}
	for _, n := range numbers(0, 3, api.ErrUnknown) {
		l = append(l, given[timing.Edge]{timing.Edge{From: n.v, To: 1, Low: 7, High: 8}, n.e}, given[timing.Edge]{timing.Edge{From: 1, To: n.v, Low: 7, High: 8}, n.e})
	}
	for _, n := range numbers(0, 100000, api.ErrRange) {
		l = append(l, given[timing.Edge]{timing.Edge{From: 1, To: 2, Low: n.v, High: 100000}, n.e}, given[timing.Edge]{timing.Edge{From: 1, To: 2, Low: 0, High: n.v}, n.e})
	}
	return l
}

// names are names of nodes with their errors.
func names() []given[[]string] {
	return []given[[]string]{
		{[]string{"r"}, api.OK},
		{[]string{"A_9", "abcdefghijklmnopqrstuvwx", "a", "A", "node", "edge"}, api.OK},
		{nil, api.ErrEmpty},
		{[]string{""}, api.ErrName},
		{[]string{"ref", "9"}, api.ErrName},
		{[]string{"ref", "a b"}, api.ErrName},
		{[]string{"ref", "a\n"}, api.ErrName},
		{[]string{"ref", "\xff"}, api.ErrName},
		{[]string{"ref", "abcdefghijklmnopqrstuvwxy"}, api.ErrName},
		{[]string{"ref", "a", "ref"}, api.ErrTwice},
		{[]string{"ref", "a", "b", "b"}, api.ErrTwice},
		{[]string{"ref", "_", "ref"}, api.ErrName},
		{[]string{"ref", "ref", "_"}, api.ErrTwice},
		{[]string{"_", "_"}, api.ErrName},
		{append(net(11).Nodes, "ref"), api.ErrTwice},
		{append(net(11).Nodes, ""), api.ErrName},
		{net(12).Nodes, api.OK},
		{net(13).Nodes, api.ErrMany},
		{make([]string, 13), api.ErrMany},
		{slices.Repeat([]string{"ref"}, 100), api.ErrMany},
	}
}

// nets are nets with their errors; those that have none have plans.
func nets() []given[timing.Net] {
	right := timing.Edge{From: 0, To: 1, Low: 1, High: 2}
	l := []given[timing.Net]{
		{netN(100), api.OK},
		{net(1), api.OK},
		{net(12, slices.Repeat([]timing.Edge{right}, 24)...), api.OK},
		{net(12, slices.Repeat([]timing.Edge{right}, 25)...), api.ErrMany},
		{net(4, make([]timing.Edge, 25)...), api.ErrMany},
		{net(0, make([]timing.Edge, 25)...), api.ErrEmpty},
		{net(13, make([]timing.Edge, 25)...), api.ErrMany},
		{timing.Net{Nodes: []string{"a", "a"}, Edges: make([]timing.Edge, 25)}, api.ErrTwice},
		{net(1, right), api.ErrUnknown},
		{net(1, timing.Edge{From: 0, To: 0}), api.ErrConflict},
	}
	for _, x := range names() {
		l = append(l, given[timing.Net]{timing.Net{Nodes: x.v}, x.e}, given[timing.Net]{timing.Net{Nodes: x.v, Edges: []timing.Edge{{From: 99}}}, firstError(x.e, api.ErrUnknown)})
	}
	for _, x := range edges() {
		if x.e != api.OK {
			l = append(l, given[timing.Net]{net(4, x.v, right), x.e}, given[timing.Net]{net(4, right, right, x.v), x.e})
			l = append(l, given[timing.Net]{net(4, x.v, timing.Edge{From: 9}), x.e}, given[timing.Net]{net(4, right, timing.Edge{}, x.v), api.ErrConflict})
		}
	}
	return l
}

// setting returns the difference of the times at the ends of an edge.
func setting(e timing.Edge, times []int) int { return times[e.To] - times[e.From] }

// isPlan reports whether times are a plan.
func isPlan(n timing.Net, times []int) bool {
	return times[0] == 0 && slices.Min(times) >= 0 && !slices.ContainsFunc(n.Edges, func(e timing.Edge) bool {
		return setting(e, times) < e.Low || setting(e, times) > e.High
	})
}

// ends returns where an arc of a net begins, where it ends, and its bound.
func ends(n timing.Net, a timing.Arc) (from, to, bound int) {
	if a.Edge == -1 {
		return 0, a.Node, 0
	}
	e := n.Edges[a.Edge]
	if a.Back {
		return e.To, e.From, -e.High
	}
	return e.From, e.To, e.Low
}

// proves reports whether arcs, each of them that of a net, are a loop that proves that the net has no plan.
func proves(n timing.Net, l []timing.Arc) bool {
	sum := 0
	for i, a := range l {
		from, _, bound := ends(n, a)
		if _, to, _ := ends(n, l[(i+len(l)-1)%len(l)]); to != from {
			return false
		}
		sum += bound
	}
	return len(l) >= 1 && len(l) <= 64 && sum > 0
}

// limits are the least and the greatest times of a net's nodes; a node without a greatest time has open.
type limits struct {
	least, greatest []int
	isFeasible      bool
}

// open is above all times.
const open = 1 << 30

// limitsOf returns the limits of a net by the longest ways between any two nodes.
func limitsOf(n timing.Net) limits {
	size := len(n.Nodes)
	const none = -open
	ways := make([][]int, size)
	for u := range ways {
		ways[u] = slices.Repeat([]int{none}, size)
		ways[u][u] = 0
	}
	for v := range size {
		ways[0][v] = 0
	}
	for _, e := range n.Edges {
		ways[e.From][e.To] = max(ways[e.From][e.To], e.Low)
		ways[e.To][e.From] = max(ways[e.To][e.From], -e.High)
	}
	for over := range size {
		for u := range size {
			for v := range size {
				if ways[u][over] != none && ways[over][v] != none {
					ways[u][v] = max(ways[u][v], ways[u][over]+ways[over][v])
				}
			}
		}
		for u := range size {
			if ways[u][u] > 0 {
				return limits{}
			}
		}
	}
	l := limits{isFeasible: true, least: ways[0]}
	for u := range size {
		l.greatest = append(l.greatest, -ways[u][0])
	}
	return l
}

// net returns a net of some nodes and edges; about so many of a hundred edges do not fit the others.
func (d *dice) net(nodes, edges, delay, unfit int) timing.Net {
	times := make([]int, nodes)
	for i := range times[1:] {
		times[i+1] = d.below(delay)
	}
	n := net(nodes)
	for len(n.Edges) < edges && nodes > 1 {
		from, to := d.below(nodes), d.below(nodes)
		if from == to {
			continue
		}
		if times[from] > times[to] {
			from, to = to, from
		}
		at := times[to] - times[from]
		if d.below(100) < unfit {
			from, to, at = to, from, d.below(delay)
		}
		n.Edges = append(n.Edges, timing.Edge{From: from, To: to, Low: max(0, at-d.below(delay)/4), High: min(100000, at+d.below(delay)/4)})
	}
	return n
}
