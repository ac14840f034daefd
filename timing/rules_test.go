package timing_test

import (
	"math"
	"slices"
	"strings"
	"testing"

	"genlock/api"
	"genlock/timing"
)

// The limits of the chapter.
func TestLimits(t *testing.T) {
	want(t, "limits", results(timing.MaxLine, timing.MaxCycle, timing.SyncLevel, timing.White, timing.MaxNodes, timing.MaxEdges, timing.MaxDelay, timing.MaxArcs, timing.MaxRate, timing.MaxSlip, timing.MaxSignal), 2000, 8, -64, 16, 12, 24, 100000, 64, 100000, 1000, 4096)
}

// clobber changes all elements of a list, and what follows them in its memory.
func clobber[T any](l []T, x T) {
	for i := range l {
		l[i] = x
	}
	_ = append(l, x)
}

// clobberNet changes all of a net's memory.
func clobberNet(n timing.Net) {
	clobber(n.Nodes, "changed")
	clobber(n.Edges, timing.Edge{From: 77})
}

// spare returns a net with free memory behind its lists.
func spare(n timing.Net) timing.Net {
	return timing.Net{Nodes: append(make([]string, 0, 15), n.Nodes...), Edges: append(make([]timing.Edge, 0, 30), n.Edges...)}
}

// Arguments are neither changed nor kept, and results share no memory with them or with each other.
func TestMemory(t *testing.T) {
	n, without := spare(netN(100)), spare(netN(30))
	times, arcs := []int{0, 40, 20, 100}, loopN()
	edge := timing.Edge{From: 1, To: 2, Low: 5, High: 6}
	for range 3 { // each time all is as it was
		plan, e := timing.Plan(n)
		want(t, "Plan", results(plan, e), []int{0, 40, 20, 100}, api.OK)
		settings, e := timing.Settings(n, times)
		want(t, "Settings", results(settings, e), []int{40, 60, 20, 80}, api.OK)
		more, e := timing.Added(n, edge)
		want(t, "Added", results(more, e), net(4, append(netN(100).Edges, edge)...), api.OK)
		again, e := timing.Added(n, timing.Edge{From: 2, To: 1})
		want(t, "Added", results(again, e), net(4, append(netN(100).Edges, timing.Edge{From: 2, To: 1})...), api.OK)
		want(t, "another one that was added", results(more), net(4, append(netN(100).Edges, edge)...))
		fewer, e := timing.Without(n, 3)
		want(t, "Without", results(fewer, e), net(4, netN(100).Edges[:3]...), api.OK)
		first, e := timing.Without(n, 0)
		want(t, "Without", results(first, e), net(4, netN(100).Edges[1:]...), api.OK)
		parsed, _, e := timing.Parse(textN)
		want(t, "Parse", results(parsed, e), netN(100), api.OK)
		signal, e := timing.Signal(formatF(), 39, 5)
		want(t, "Signal", results(signal, e), []float32{0, -64, 0, 0, 16}, api.OK)
		through, e := timing.Lock(50, 13, 5)
		want(t, "Lock", results(through, e), []int{13, 8, 3, 0}, api.OK)
		loop, e := timing.Loop(without)
		want(t, "Loop", results(proves(without, loop), e), true, api.OK)
		want(t, "CheckLoop", results(timing.CheckLoop(without, arcs), timing.CheckPlan(n, times)), api.OK, api.OK)
		for _, l := range [][]int{plan, settings, through} {
			clobber(l, 77)
		}
		for _, changed := range []timing.Net{more, again, fewer, first, parsed} {
			clobberNet(changed)
		}
		clobber(signal, 77)
		clobber(loop, timing.Arc{Edge: 77})
		want(t, "arguments", results(n, without, times, arcs), netN(100), netN(30), []int{0, 40, 20, 100}, loopN())
		want(t, "behind them", results(n.Edges[:30][4:], n.Nodes[:15][4:]), make([]timing.Edge, 26), make([]string, 11))
	}
}

// Results do not change with the arguments.
func TestResultsStay(t *testing.T) {
	n, times := spare(netN(100)), []int{0, 40, 20, 100}
	more := must[timing.Net](t)(timing.Added(n, timing.Edge{From: 1, To: 2, Low: 5, High: 6}))
	fewer := must[timing.Net](t)(timing.Without(n, 3))
	settings := must[[]int](t)(timing.Settings(n, times))
	clobberNet(n)
	clobber(times, 77)
	want(t, "Added", results(more), net(4, append(netN(100).Edges, timing.Edge{From: 1, To: 2, Low: 5, High: 6})...))
	want(t, "Without", results(fewer), net(4, netN(100).Edges[:3]...))
	want(t, "Settings", results(settings), []int{40, 60, 20, 80})
}

// The same arguments have the same results.
func TestSameResults(t *testing.T) {
	d := dice(14)
	for range 200 {
		n := d.net(12, 24, 100, 3)
		plan, e := timing.Plan(n)
		l, none := timing.Loop(n)
		for range 3 {
			want(t, n, results(timing.Plan(n)), plan, e)
			again, same := timing.Loop(n) // which loop it is, is free
			want(t, n, results(len(again) > 0, same), len(l) > 0, none)
		}
	}
}

// strange are numbers of all kinds.
func strange() []int {
	return []int{math.MinInt, math.MinInt + 1, -1 << 32, -1, 0, 1, 2, 3, 5, 64, 2000, 4096, 10000000, 1 << 32, 1 << 61, math.MaxInt - 1, math.MaxInt}
}

// P1: no function panics, for strange arguments.
func TestAllArguments(t *testing.T) {
	d := dice(15)
	some := func() int { return strange()[d.below(len(strange()))] }
	for i := range 20000 {
		f := timing.Format{Samples: some(), Lines: some(), Fields: some(), Blank: some(), Sync: some(), Vertical: some(), Cycle: some()}
		if i%2 == 0 {
			f = formatF()
		}
		p := timing.Position{Frame: some(), Field: some(), Line: some(), Sample: some()}
		timing.CheckFormat(f)
		timing.At(f, some())
		timing.Tick(f, p)
		timing.Row(f, p)
		timing.Phase(f, some())
		timing.Blanked(f, some())
		timing.InSync(f, some())
		timing.Vertical(f, some())
		timing.Signal(f, some(), some())
		timing.Lock(some(), some(), some())
		r := api.Ratio{Num: some(), Den: some()}
		timing.Counted(r, some())
		timing.Slip(r, some())
	}
}

// P1: no function panics, for strange nets.
func TestAllNets(t *testing.T) {
	d := dice(16)
	some := func() int { return strange()[d.below(len(strange()))] }
	all := nets()
	for range 5000 {
		n := all[d.below(len(all))].v
		e := timing.Edge{From: some(), To: some(), Low: some(), High: some()}
		arcs := make([]timing.Arc, d.below(4))
		times := make([]int, d.below(5))
		for i := range arcs {
			arcs[i] = timing.Arc{Edge: some(), Back: d.below(2) == 0, Node: some()}
		}
		for i := range times {
			times[i] = some()
		}
		if d.below(2) == 0 {
			n.Edges = append(slices.Clone(n.Edges), e)
		}
		timing.CheckNet(n)
		timing.Plan(n)
		timing.CheckPlan(n, times)
		timing.Settings(n, times)
		timing.Loop(n)
		timing.CheckLoop(n, arcs)
		timing.Window(n, some())
		timing.Added(n, e)
		timing.Without(n, some())
		timing.Print(n)
	}
}

// P1: texts without a form.
func TestAllTexts(t *testing.T) {
	d := dice(17)
	for range 5000 {
		s := []byte(textN)
		for range 1 + d.below(4) {
			s[d.below(len(s))] = " \nodedgcamref019-\xff"[d.below(18)]
		}
		s = s[:d.below(len(s)+1)]
		n, at, e := timing.Parse(string(s))
		switch {
		case e == api.OK:
			want(t, string(s), results(at, timing.CheckNet(n)), 0, api.OK)
			again, _, e := timing.Parse(must[string](t)(timing.Print(n)))
			want(t, string(s), results(again, e), n, api.OK)
		case len(n.Nodes)+len(n.Edges) > 0 || at < 0 || at > 1+strings.Count(string(s), "\n"):
			t.Errorf("%q: got %v, %d, %d", s, n, at, e)
		}
	}
}
