package timing_test

import (
	"math"
	"slices"
	"testing"

	"genlock/api"
	"genlock/timing"
)

// P4.3
func TestCheckNet(t *testing.T) {
	for _, n := range nets() {
		want(t, n.v, results(timing.CheckNet(n.v)), n.e)
	}
	for _, e := range edges() {
		want(t, e.v, results(timing.CheckNet(net(4, e.v))), e.e)
	}
	want(t, "no plan", results(timing.CheckNet(netN(30))), api.OK)
}

// P4.3: the examples of the chapter.
func TestExamplesOfPlans(t *testing.T) {
	n := netN(100)
	want(t, "Plan", results(timing.Plan(n)), []int{0, 40, 20, 100}, api.OK)
	want(t, "CheckPlan", results(timing.CheckPlan(n, []int{0, 40, 20, 100})), api.OK)
	want(t, "Settings", results(timing.Settings(n, []int{0, 40, 20, 100})), []int{40, 60, 20, 80}, api.OK)
	want(t, "Settings of another plan", results(timing.Settings(n, []int{0, 50, 20, 105})), []int{50, 55, 20, 85}, api.OK)
	for node, window := range []api.Interval{{}, {Low: 40, High: 60}, {Low: 20, High: 20}, {Low: 100, High: 110}} {
		want(t, node, results(timing.Window(n, node)), window, api.OK)
	}
	want(t, "no plan", results(timing.Plan(netN(30))), []int(nil), api.ErrInfeasible)
	want(t, "just a plan", results(timing.Plan(netN(40))), []int{0, 40, 20, 100}, api.OK)
	want(t, "just no plan", results(timing.Plan(netN(39))), []int(nil), api.ErrInfeasible)
}

// P4.3: two paths of 60 to 100 and 100 ticks to one mixer.
func TestPathsToOneMixer(t *testing.T) {
	n := net(4, timing.Edge{From: 0, To: 1, High: 100000}, timing.Edge{From: 0, To: 2, High: 100000}, timing.Edge{From: 1, To: 3, Low: 60, High: 100}, timing.Edge{From: 2, To: 3, Low: 100, High: 100})
	want(t, "Plan", results(timing.Plan(n)), []int{0, 0, 0, 100}, api.OK)
	n.Edges[2].High = 60
	want(t, "the shorter one begins later", results(timing.Plan(n)), []int{0, 40, 0, 100}, api.OK)
	n.Edges[2].High = 70
	want(t, "no later than it must", results(timing.Plan(n)), []int{0, 30, 0, 100}, api.OK)
}

// P4.3: nets with a single plan, with many, and without one.
func TestPlans(t *testing.T) {
	var long []timing.Edge
	for node := range 11 {
		long = append(long, timing.Edge{From: node, To: node + 1, Low: 100000, High: 100000})
	}
	for _, x := range []struct {
		n       timing.Net
		plan    []int
		windows []api.Interval // a node without a greatest time has -1
	}{
		{net(1), []int{0}, []api.Interval{{}}},
		{net(3), []int{0, 0, 0}, []api.Interval{{}, {High: -1}, {High: -1}}},
		{net(2, timing.Edge{From: 0, To: 1, Low: 5, High: 9}), []int{0, 5}, []api.Interval{{}, {Low: 5, High: 9}}},
		{net(2, timing.Edge{From: 1, To: 0, Low: 0, High: 9}), []int{0, 0}, []api.Interval{{}, {}}},
		{net(2, timing.Edge{From: 1, To: 0, Low: 1, High: 9}), nil, nil},
		{net(2, timing.Edge{From: 1, To: 0, Low: 0, High: 9}, timing.Edge{From: 0, To: 1, Low: 1, High: 9}), nil, nil},
		{net(3, timing.Edge{From: 1, To: 2, Low: 5, High: 9}), []int{0, 0, 5}, []api.Interval{{}, {High: -1}, {High: -1}}},
		{net(3, timing.Edge{From: 2, To: 1, Low: 5, High: 9}), []int{0, 5, 0}, []api.Interval{{}, {High: -1}, {High: -1}}},
		{net(3, timing.Edge{From: 2, To: 1, Low: 5, High: 9}, timing.Edge{From: 0, To: 1, Low: 3, High: 20}), []int{0, 5, 0}, []api.Interval{{}, {Low: 5, High: 20}, {Low: 0, High: 15}}},
		{net(3, timing.Edge{From: 0, To: 1, Low: 20, High: 30}, timing.Edge{From: 2, To: 1, Low: 5, High: 9}), []int{0, 20, 11}, []api.Interval{{}, {Low: 20, High: 30}, {Low: 11, High: 25}}},
		{net(2, timing.Edge{From: 0, To: 1, Low: 5, High: 9}, timing.Edge{From: 0, To: 1, Low: 7, High: 12}), []int{0, 7}, []api.Interval{{}, {Low: 7, High: 9}}},
		{net(2, timing.Edge{From: 0, To: 1, Low: 5, High: 9}, timing.Edge{From: 0, To: 1, Low: 10, High: 12}), nil, nil},
		{net(3, timing.Edge{From: 1, To: 2, High: 5}, timing.Edge{From: 2, To: 1, High: 5}), []int{0, 0, 0}, []api.Interval{{}, {High: -1}, {High: -1}}},
		{net(3, timing.Edge{From: 1, To: 2, Low: 1, High: 5}, timing.Edge{From: 2, To: 1, High: 5}), nil, nil},
		{net(12, long...), []int{0, 100000, 200000, 300000, 400000, 500000, 600000, 700000, 800000, 900000, 1000000, 1100000}, nil},
	} {
		e := api.OK
		if x.plan == nil {
			e = api.ErrInfeasible
		}
		want(t, x.n, results(timing.Plan(x.n)), x.plan, e)
		for node, w := range x.windows {
			if w.High < 0 {
				want(t, results(x.n, node), results(timing.Window(x.n, node)), api.Interval{}, api.ErrOpen)
			} else {
				want(t, results(x.n, node), results(timing.Window(x.n, node)), w, api.OK)
			}
		}
		if x.plan == nil {
			for node := range x.n.Nodes {
				want(t, results(x.n, node), results(timing.Window(x.n, node)), api.Interval{}, api.ErrInfeasible)
			}
		}
	}
}

// wantLimits compares the plan and the windows of a net with its limits.
func wantLimits(t *testing.T, n timing.Net, l limits) {
	t.Helper()
	if !l.isFeasible {
		want(t, n, results(timing.Plan(n)), []int(nil), api.ErrInfeasible)
		want(t, n, results(timing.Window(n, len(n.Nodes)-1)), api.Interval{}, api.ErrInfeasible)
		return
	}
	want(t, n, results(timing.Plan(n)), l.least, api.OK)
	for node := range n.Nodes {
		if l.greatest[node] == open {
			want(t, results(n, node), results(timing.Window(n, node)), api.Interval{}, api.ErrOpen)
		} else {
			want(t, results(n, node), results(timing.Window(n, node)), api.Interval{Low: l.least[node], High: l.greatest[node]}, api.OK)
		}
	}
}

// tried returns the limits of a net of four nodes with delays up to 3, by trying all times; nodes that no edges connect with the reference have no greatest time.
func tried(n timing.Net) limits {
	l := limits{least: slices.Repeat([]int{open}, 4), greatest: slices.Repeat([]int{-1}, 4)}
	const most = 10 // times of the least plan, and greatest times, are sums of at most three delays
	for i := range most * most * most {
		times := []int{0, i % most, i / most % most, i / most / most}
		if !isPlan(n, times) {
			continue
		}
		l.isFeasible = true
		for node, at := range times {
			l.least[node] = min(l.least[node], at)
			l.greatest[node] = max(l.greatest[node], at)
		}
	}
	connected := []bool{true, false, false, false}
	for range 3 {
		for _, e := range n.Edges {
			both := connected[e.From] || connected[e.To]
			connected[e.From], connected[e.To] = both, both
		}
	}
	for node, is := range connected {
		if !is {
			l.greatest[node] = open
		}
	}
	return l
}

// P4.3: small nets, by trying all times.
func TestPlansOfSmallNets(t *testing.T) {
	d := dice(1)
	counts := map[bool]int{}
	for range 1500 {
		n := net(4)
		for range d.below(6) {
			from, low := d.below(4), d.below(4)
			n.Edges = append(n.Edges, timing.Edge{From: from, To: (from + 1 + d.below(3)) % 4, Low: low, High: low + d.below(4-low)})
		}
		l := tried(n)
		wantLimits(t, n, l)
		counts[l.isFeasible]++
	}
	if counts[true] < 300 || counts[false] < 300 {
		t.Errorf("nets with and without a plan: %v", counts)
	}
}

// P4.3: nets of all sizes, by the longest ways between all nodes.
func TestPlansOfLargeNets(t *testing.T) {
	d := dice(2)
	counts := map[bool]int{}
	for i := range 1500 {
		n := d.net(1+d.below(12), d.below(25), []int{4, 100, 100000}[i%3], []int{0, 3, 30}[i/3%3])
		l := limitsOf(n)
		wantLimits(t, n, l)
		counts[l.isFeasible]++
	}
	if counts[true] < 300 || counts[false] < 300 {
		t.Errorf("nets with and without a plan: %v", counts)
	}
}

// P4.3: what is a plan, and what is none.
func TestCheckPlan(t *testing.T) {
	n := netN(100)
	for _, x := range []given[[]int]{
		{[]int{0, 40, 20, 100}, api.OK},
		{[]int{0, 60, 20, 110}, api.OK},
		{[]int{0, 50, 20, 110}, api.OK},
		{[]int{0, 39, 20, 100}, api.ErrConflict},
		{[]int{0, 51, 20, 100}, api.ErrConflict},
		{[]int{0, 40, 20, 99}, api.ErrConflict},
		{[]int{0, 60, 20, 111}, api.ErrConflict},
		{[]int{0, 40, 19, 100}, api.ErrConflict},
		{[]int{0, 40, 21, 101}, api.ErrConflict},
		{[]int{0, 101, 20, 100}, api.ErrConflict},
		{[]int{1, 41, 21, 101}, api.ErrConflict},
		{[]int{10000000, 0, 0, 0}, api.ErrConflict},
		{[]int{0, 40, 20}, api.ErrShape},
		{[]int{0, 40, 20, 100, 0}, api.ErrShape},
		{[]int{-1, 40, 20}, api.ErrShape},
		{nil, api.ErrShape},
		{[]int{-1, 39, 19, 99}, api.ErrRange},
		{[]int{0, 40, 20, 10000001}, api.ErrRange},
		{[]int{0, 40, -20, 100}, api.ErrRange},
		{[]int{5, 40, 20, math.MinInt}, api.ErrRange},
		{[]int{math.MaxInt, math.MinInt, math.MaxInt, math.MinInt}, api.ErrRange},
	} {
		want(t, x.v, results(timing.CheckPlan(n, x.v)), x.e)
		wantError(t, x.v, results(timing.Settings(n, x.v)), x.e, []int(nil))
	}
	want(t, "the reference alone", results(timing.CheckPlan(net(1), []int{0})), api.OK)
	want(t, "another time of it", results(timing.CheckPlan(net(1), []int{1})), api.ErrConflict)
	want(t, "the greatest time", results(timing.CheckPlan(net(2), []int{0, 10000000})), api.OK)
	want(t, "above it", results(timing.CheckPlan(net(2), []int{0, 10000001})), api.ErrRange)
	want(t, "a net without a plan", results(timing.CheckPlan(netN(30), []int{0, 30, 20, 90})), api.ErrConflict)
	want(t, "no edges", results(timing.Settings(net(2), []int{0, 7})), []int(nil), api.OK)
	back := net(2, timing.Edge{From: 1, To: 0, Low: 0, High: 5})
	want(t, "an edge to the reference", results(timing.Settings(back, []int{0, 0})), []int{0}, api.OK)
	want(t, "a time that is too late", results(timing.Settings(back, []int{0, 1})), []int(nil), api.ErrConflict)
}

// P4.3: any times of small nets.
func TestCheckPlanOfAnyTimes(t *testing.T) {
	d := dice(3)
	counts := map[bool]int{}
	for range 5000 {
		n := d.net(3, 2, 5, 10)
		times := []int{d.below(10) / 9, d.below(5), d.below(5)}
		e := api.ErrConflict
		var settings []int
		if isPlan(n, times) {
			e = api.OK
			for _, edge := range n.Edges {
				settings = append(settings, setting(edge, times))
			}
		}
		want(t, results(n, times), results(timing.CheckPlan(n, times)), e)
		want(t, results(n, times), results(timing.Settings(n, times)), settings, e)
		counts[e == api.OK]++
	}
	if counts[true] < 300 || counts[false] < 300 {
		t.Errorf("plans and others: %v", counts)
	}
}

// P4.3: the errors of the arguments, from left to right.
func TestErrorsOfPlans(t *testing.T) {
	for _, n := range nets() {
		wantError(t, n.v, results(timing.Plan(n.v)), n.e, []int(nil))
		if n.e != api.OK {
			for _, times := range [][]int{nil, {-1}, {0}, {0, 1, 2, 3}} {
				want(t, n.v, results(timing.CheckPlan(n.v, times)), n.e)
				want(t, n.v, results(timing.Settings(n.v, times)), []int(nil), n.e)
			}
		}
		for _, node := range numbers(0, max(0, len(n.v.Nodes)-1), api.ErrUnknown) {
			e := firstError(n.e, node.e)
			if e != api.OK {
				want(t, results(n.v, node.v), results(timing.Window(n.v, node.v)), api.Interval{}, e)
			}
		}
	}
	for _, node := range numbers(0, 3, api.ErrUnknown) {
		want(t, node.v, results(timing.Window(netN(30), node.v)), api.Interval{}, firstError(node.e, api.ErrInfeasible))
	}
}
