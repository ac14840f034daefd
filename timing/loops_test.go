package timing_test

import (
	"math"
	"slices"
	"testing"

	"genlock/api"
	"genlock/timing"
)

// loopN is that of the chapter's examples: of the net N, with the first edge 0 to 30.
func loopN() []timing.Arc {
	return []timing.Arc{{Edge: 2}, {Edge: 3}, {Edge: 1, Back: true}, {Edge: 0, Back: true}}
}

// turned returns a loop that begins with another one of its arcs.
func turned(l []timing.Arc, by int) []timing.Arc {
	return slices.Concat(l[by:], l[:by])
}

// P4.4: the example of the chapter.
func TestExampleOfLoops(t *testing.T) {
	n := netN(30)
	want(t, "CheckLoop", results(timing.CheckLoop(n, loopN())), api.OK)
	l, e := timing.Loop(n)
	want(t, "Loop", results(e, proves(n, l), timing.CheckLoop(n, l)), api.OK, true, api.OK)
	want(t, "with a plan", results(timing.Loop(netN(100))), []timing.Arc(nil), api.ErrNone)
	want(t, "with a plan", results(timing.CheckLoop(netN(100), loopN())), api.ErrProof)
	want(t, "just a plan", results(timing.CheckLoop(netN(40), loopN())), api.ErrProof)
	want(t, "just no plan", results(timing.CheckLoop(netN(39), loopN())), api.OK)
	want(t, "just no plan", results(timing.Loop(netN(40))), []timing.Arc(nil), api.ErrNone)
}

// P4.4: loops that are right.
func TestCheckLoop(t *testing.T) {
	n := netN(30)
	for by := range 4 {
		want(t, by, results(timing.CheckLoop(n, turned(loopN(), by))), api.OK)
	}
	for times := 1; times <= 16; times++ { // a loop may go round several times
		want(t, times, results(timing.CheckLoop(n, slices.Repeat(loopN(), times))), api.OK)
	}
	want(t, "68 arcs", results(timing.CheckLoop(n, slices.Repeat(loopN(), 17))), api.ErrMany)
	rests := slices.Repeat([]timing.Arc{{Edge: -1}}, 5) // the loop begins at the reference, which may rest there
	want(t, "64 arcs", results(timing.CheckLoop(n, append(slices.Repeat(loopN(), 15), rests[:4]...))), api.OK)
	want(t, "65 arcs", results(timing.CheckLoop(n, append(slices.Repeat(loopN(), 15), rests...))), api.ErrMany)
	want(t, "rests first", results(timing.CheckLoop(n, append(slices.Clone(rests), loopN()...))), api.OK)
	same := net(3, timing.Edge{From: 1, To: 2, Low: 5, High: 6}, timing.Edge{From: 1, To: 2, Low: 1, High: 4}) // without the reference
	want(t, "two edges from one node to another one", results(timing.CheckLoop(same, []timing.Arc{{Edge: 0}, {Edge: 1, Back: true}})), api.OK)
	want(t, "the other way round", results(timing.CheckLoop(same, []timing.Arc{{Edge: 1}, {Edge: 0, Back: true}})), api.ErrProof)
	want(t, "one edge, there and back", results(timing.CheckLoop(same, []timing.Arc{{Edge: 0}, {Edge: 0, Back: true}})), api.ErrProof)
}

// P4.4: rests.
func TestRests(t *testing.T) {
	late := net(3, timing.Edge{From: 2, To: 1, Low: 5, High: 9}, timing.Edge{From: 1, To: 0, Low: 0, High: 9}) // the node 2 would be before 0
	for _, x := range []given[[]timing.Arc]{
		{[]timing.Arc{{Edge: -1, Node: 2}, {Edge: 0}, {Edge: 1}}, api.OK},
		{[]timing.Arc{{Edge: 0}, {Edge: 1}, {Edge: -1, Node: 2}}, api.OK},
		{[]timing.Arc{{Edge: -1}, {Edge: -1, Node: 2}, {Edge: 0}, {Edge: 1}, {Edge: -1}}, api.OK},
		{[]timing.Arc{{Edge: -1}}, api.ErrProof},
		{[]timing.Arc{{Edge: -1, Node: 1}, {Edge: 1}}, api.ErrProof},
		{[]timing.Arc{{Edge: -1, Node: 1}}, api.ErrOrder},
		{[]timing.Arc{{Edge: -1, Node: 1}, {Edge: 0}, {Edge: 1}}, api.ErrOrder},
		{[]timing.Arc{{Edge: -1, Node: 2}, {Edge: 0}, {Edge: -1, Node: 2}, {Edge: 1}}, api.ErrOrder},
	} {
		want(t, x.v, results(timing.CheckLoop(late, x.v)), x.e)
	}
	want(t, "no plan", results(timing.Plan(late)), []int(nil), api.ErrInfeasible)
	l, e := timing.Loop(late)
	want(t, l, results(e, proves(late, l), timing.CheckLoop(late, l)), api.OK, true, api.OK)
}

// P4.4: arcs that are wrong.
func TestErrorsOfArcs(t *testing.T) {
	n := netN(30)
	for _, x := range []given[timing.Arc]{
		{timing.Arc{Edge: -2}, api.ErrUnknown},
		{timing.Arc{Edge: 4}, api.ErrUnknown},
		{timing.Arc{Edge: math.MinInt}, api.ErrUnknown},
		{timing.Arc{Edge: math.MaxInt, Back: true}, api.ErrUnknown},
		{timing.Arc{Edge: 4, Node: 1}, api.ErrUnknown},
		{timing.Arc{Edge: -2, Node: 1}, api.ErrUnknown},
		{timing.Arc{Edge: -1, Node: -1}, api.ErrUnknown},
		{timing.Arc{Edge: -1, Node: 4}, api.ErrUnknown},
		{timing.Arc{Edge: -1, Node: 4, Back: true}, api.ErrUnknown},
		{timing.Arc{Edge: -1, Node: math.MinInt}, api.ErrUnknown},
		{timing.Arc{Edge: -1, Node: math.MaxInt}, api.ErrUnknown},
		{timing.Arc{Edge: 0, Node: 1}, api.ErrForm},
		{timing.Arc{Edge: 3, Back: true, Node: -1}, api.ErrForm},
		{timing.Arc{Edge: 3, Node: 99}, api.ErrForm},
		{timing.Arc{Edge: -1, Back: true}, api.ErrForm},
		{timing.Arc{Edge: -1, Back: true, Node: 3}, api.ErrForm},
	} {
		want(t, x.v, results(timing.CheckLoop(n, []timing.Arc{x.v})), x.e)
		want(t, x.v, results(timing.CheckLoop(n, append(loopN(), x.v))), x.e)
		want(t, x.v, results(timing.CheckLoop(n, append([]timing.Arc{x.v}, loopN()...))), x.e)
		want(t, x.v, results(timing.CheckLoop(n, append([]timing.Arc{{Edge: 3}, {Edge: 0}}, x.v))), x.e)
		want(t, x.v, results(timing.CheckLoop(n, slices.Repeat([]timing.Arc{x.v}, 64))), x.e)
		want(t, x.v, results(timing.CheckLoop(n, slices.Repeat([]timing.Arc{x.v}, 65))), api.ErrMany)
		want(t, x.v, results(timing.CheckLoop(n, []timing.Arc{x.v, {Edge: 99}, {Edge: -1, Back: true}})), x.e)
		want(t, x.v, results(timing.CheckLoop(n, []timing.Arc{{Edge: 99}, x.v})), api.ErrUnknown)
		want(t, x.v, results(timing.CheckLoop(n, []timing.Arc{{Edge: -1, Back: true}, x.v})), api.ErrForm)
	}
	want(t, "no arcs", results(timing.CheckLoop(n, nil)), api.ErrEmpty)
	for _, x := range nets() {
		if x.e != api.OK {
			for _, l := range [][]timing.Arc{nil, loopN(), {{Edge: 99}}, {{Edge: -1}}, make([]timing.Arc, 65)} {
				want(t, x.v, results(timing.CheckLoop(x.v, l)), x.e)
			}
		}
	}
}

// P4.4: arcs that do not follow one another.
func TestOrderOfArcs(t *testing.T) {
	n := netN(30)
	for i := range 4 {
		fewer := slices.Delete(loopN(), i, i+1)
		want(t, fewer, results(timing.CheckLoop(n, fewer)), api.ErrOrder)
		twice := slices.Insert(loopN(), i, loopN()[i])
		want(t, twice, results(timing.CheckLoop(n, twice)), api.ErrOrder)
		other := loopN()
		other[i].Back = !other[i].Back
		want(t, other, results(timing.CheckLoop(n, other)), api.ErrOrder)
		one := loopN()[i : i+1]
		want(t, one, results(timing.CheckLoop(n, one)), api.ErrOrder)
	}
	backward := loopN()
	slices.Reverse(backward)
	want(t, "backward", results(timing.CheckLoop(n, backward)), api.ErrOrder)
	open := []timing.Arc{{Edge: 0}, {Edge: 1}} // each but the first one begins where the one before it ends
	want(t, "not closed", results(timing.CheckLoop(n, open)), api.ErrOrder)
	want(t, "the first one alone", results(timing.CheckLoop(n, []timing.Arc{{Edge: 0}, {Edge: 1}, {Edge: 3, Back: true}})), api.ErrOrder)
}

// P4.4: any arcs of small nets.
func TestCheckLoopOfAnyArcs(t *testing.T) {
	d := dice(4)
	counts := map[api.Errno]int{}
	for range 20000 {
		n := d.net(2+d.below(2), 3, 5, 50)
		var l []timing.Arc
		for range 1 + d.below(4) {
			if d.below(4) == 0 {
				l = append(l, timing.Arc{Edge: -1, Node: d.below(len(n.Nodes))})
			} else {
				l = append(l, timing.Arc{Edge: d.below(3), Back: d.below(2) == 0})
			}
		}
		follows, sum := true, 0
		for i, a := range l {
			from, _, bound := ends(n, a)
			_, to, _ := ends(n, l[(i+len(l)-1)%len(l)])
			follows = follows && from == to
			sum += bound
		}
		e := api.OK
		if !follows {
			e = api.ErrOrder
		} else if sum <= 0 {
			e = api.ErrProof
		}
		want(t, results(n, l), results(timing.CheckLoop(n, l)), e)
		counts[e]++
	}
	if counts[api.OK] < 300 || counts[api.ErrProof] < 300 || counts[api.ErrOrder] < 300 {
		t.Errorf("loops: %v", counts)
	}
}

// P4.4, P4.6 and P4: a net has a plan, or a loop that proves that it has none, and never both.
func TestLoops(t *testing.T) {
	d := dice(5)
	counts := map[bool]int{}
	for i := range 3000 {
		n := d.net(1+d.below(12), d.below(25), []int{4, 100, 100000}[i%3], []int{2, 10, 50}[i/3%3])
		plan, e := timing.Plan(n)
		l, none := timing.Loop(n)
		counts[e == api.OK]++
		if e == api.OK {
			want(t, n, results(timing.CheckPlan(n, plan), isPlan(n, plan), l, none), api.OK, true, []timing.Arc(nil), api.ErrNone)
		} else {
			want(t, n, results(timing.CheckLoop(n, l), proves(n, l), none, plan, e), api.OK, true, api.OK, []int(nil), api.ErrInfeasible)
		}
	}
	if counts[true] < 500 || counts[false] < 500 {
		t.Errorf("nets with and without a plan: %v", counts)
	}
}

// P4.4: loops of all nodes of a large net.
func TestLongLoops(t *testing.T) {
	for most := 10; most <= 13; most++ {
		n := net(12)
		for node := range 11 {
			n.Edges = append(n.Edges, timing.Edge{From: node, To: node + 1, Low: 1, High: 2})
		}
		n.Edges = append(n.Edges, timing.Edge{From: 0, To: 11, Low: 0, High: most})
		if most >= 11 {
			want(t, most, results(timing.Loop(n)), []timing.Arc(nil), api.ErrNone)
			continue
		}
		l, e := timing.Loop(n)
		want(t, l, results(e, proves(n, l), timing.CheckLoop(n, l)), api.OK, true, api.OK)
	}
}

// P4.4: nets with an edge more.
func TestAdded(t *testing.T) {
	n := netN(100)
	for _, e := range edges() {
		more := net(4, append(slices.Clone(n.Edges), e.v)...)
		if e.e != api.OK {
			more = timing.Net{}
		}
		want(t, e.v, results(timing.Added(n, e.v)), more, e.e)
	}
	right := timing.Edge{From: 1, To: 0, Low: 3, High: 4}
	want(t, "the first edge", results(timing.Added(net(2), right)), net(2, right), api.OK)
	want(t, "no plan", results(timing.Plan(must[timing.Net](t)(timing.Added(net(2), right)))), []int(nil), api.ErrInfeasible)
	full := net(4, slices.Repeat([]timing.Edge{right}, 24)...)
	want(t, "the last edge", results(timing.Added(net(4, full.Edges[:23]...), right)), full, api.OK)
	for _, e := range edges() {
		want(t, e.v, results(timing.Added(full, e.v)), timing.Net{}, firstError(e.e, api.ErrMany))
	}
	for _, x := range nets() {
		if x.e != api.OK {
			want(t, x.v, results(timing.Added(x.v, right)), timing.Net{}, x.e)
			want(t, x.v, results(timing.Added(x.v, timing.Edge{From: -1})), timing.Net{}, x.e)
		}
	}
	want(t, "an edge of the reference alone", results(timing.Added(net(1), right)), timing.Net{}, api.ErrUnknown)
}

// P4.4: nets with an edge fewer.
func TestWithout(t *testing.T) {
	n := netN(100)
	for edge := range 4 {
		fewer := slices.Delete(slices.Clone(n.Edges), edge, edge+1)
		want(t, edge, results(timing.Without(n, edge)), net(4, fewer...), api.OK)
	}
	want(t, "the last edge", results(timing.Without(net(3, n.Edges[0]), 0)), net(3), api.OK)
	want(t, "no edge", results(timing.Without(net(3), 0)), timing.Net{}, api.ErrUnknown)
	want(t, "no plan", results(timing.Without(netN(30), 1)), net(4, netN(30).Edges[0], n.Edges[2], n.Edges[3]), api.OK)
	for _, edge := range numbers(0, 3, api.ErrUnknown) {
		wantError(t, edge.v, results(timing.Without(n, edge.v)), edge.e, timing.Net{})
		for _, x := range nets() {
			if x.e != api.OK {
				want(t, results(x.v, edge.v), results(timing.Without(x.v, edge.v)), timing.Net{}, x.e)
			}
		}
	}
}

// P4.4: the errors of nets.
func TestErrorsOfLoops(t *testing.T) {
	for _, n := range nets() {
		want(t, n.v, results(timing.Loop(n.v)), []timing.Arc(nil), firstError(n.e, api.ErrNone))
	}
}
