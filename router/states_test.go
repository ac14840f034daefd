package router_test

import (
	"slices"
	"testing"

	"genlock/api"
	"genlock/router"
)

// P5.1: the examples of the chapter.
func TestExamplesOfStates(t *testing.T) {
	r := routerR(points1)
	want(t, "R", results(router.CheckRouter(routerR("")), router.CheckRouter(r)), api.OK, api.OK)
	want(t, "air", results(router.Held(r, "air")), []string{"cam", "cam"}, api.OK)
	want(t, "rec", results(router.Held(r, "rec")), []string{"", ""}, api.OK)
	want(t, "air", results(router.Trace(r, 0, "air")), []string{"cam", "t", "air"}, api.OK)
	want(t, "rec", results(router.Trace(r, 0, "rec")), []string{}, api.OK)
	want(t, "t is busy, u is not", results(router.Busy(r, 0)), []string{"t"}, api.OK)
	want(t, "cam", results(router.Users(r, 1, "cam")), []string{"air"}, api.OK)
	want(t, "vtr", results(router.Users(r, 1, "vtr")), []string{}, api.OK)
}

// P5.1: states at different levels, and ties behind one another.
func TestStates(t *testing.T) {
	r := routerR(points4)
	want(t, "air", results(router.Held(r, "air")), []string{"vtr", "vtr"}, api.OK)
	want(t, "rec", results(router.Held(r, "rec")), []string{"cam", ""}, api.OK)
	want(t, "mon", results(router.Held(r, "mon")), []string{"", ""}, api.OK)
	want(t, "rec", results(router.Trace(r, 0, "rec")), []string{"cam", "t", "rec"}, api.OK)
	want(t, "rec", results(router.Trace(r, 1, "rec")), []string{}, api.OK)
	want(t, "air", results(router.Trace(r, 1, "air")), []string{"vtr", "air"}, api.OK)
	want(t, "level 0", results(router.Busy(r, 0)), []string{"t"}, api.OK)
	want(t, "level 1", results(router.Busy(r, 1)), []string{}, api.OK)
	want(t, "vtr", results(router.Users(r, 0, "vtr")), []string{"air"}, api.OK)
	want(t, "cam", results(router.Users(r, 0, "cam")), []string{"rec"}, api.OK)
	want(t, "cam", results(router.Users(r, 1, "cam")), []string{}, api.OK)
	r = ring("0 x r 0 z over 0 p a 0 q p 0 r q 0 over a 1 x a 1 y b 1 z q 1 q b")
	want(t, "x", results(router.Trace(r, 0, "x")), []string{"a", "p", "q", "r", "x"}, api.OK)
	want(t, "z", results(router.Trace(r, 0, "z")), []string{"a", "over", "z"}, api.OK)
	want(t, "x", results(router.Held(r, "x")), []string{"a", "a"}, api.OK)
	want(t, "y", results(router.Held(r, "y")), []string{"", "b"}, api.OK)
	want(t, "z", results(router.Held(r, "z")), []string{"a", "b"}, api.OK)
	want(t, "level 0", results(router.Busy(r, 0)), []string{"p", "q", "r", "over"}, api.OK)
	want(t, "level 1", results(router.Busy(r, 1)), []string{"q"}, api.OK)
	want(t, "a", results(router.Users(r, 0, "a")), []string{"x", "z"}, api.OK)
	want(t, "b", results(router.Users(r, 1, "b")), []string{"y", "z"}, api.OK)
}

// P5.1: routers with each of the errors.
func TestCheckRouter(t *testing.T) {
	for _, x := range routers() {
		want(t, x.v, results(router.CheckRouter(x.v)), x.e)
	}
}

// P5.1: errors of all kinds, of which the first one decides.
func TestCheckRouterOfSeveralErrors(t *testing.T) {
	r := router.Router{Levels: 4, Matrices: 5, Sources: make([]router.Source, 9), Destinations: make([]router.Destination, 9), Ties: make([]router.Tie, 7), Points: make([]router.Point, 1)}
	check := func(e api.Errno) {
		t.Helper()
		want(t, r, results(router.CheckRouter(r)), e)
	}
	check(api.ErrRange)
	r.Levels = 2
	check(api.ErrRange)
	r.Matrices = 2
	check(api.ErrMany)
	r.Sources = []router.Source{{Name: ""}}
	check(api.ErrName)
	r.Sources = []router.Source{{Name: "a", Matrix: 2}}
	check(api.ErrUnknown)
	r.Sources = []router.Source{{Name: "a", Matrix: 1}, {Name: "a", Matrix: 2}}
	check(api.ErrTwice)
	r.Sources = []router.Source{{Name: "a", Matrix: 1}}
	check(api.ErrMany)
	r.Destinations = []router.Destination{{Name: "b", Matrix: 1}, {Name: "a", Matrix: 9}}
	check(api.ErrTwice)
	r.Destinations = []router.Destination{{Name: "b", Matrix: 1}}
	check(api.ErrMany)
	r.Ties = []router.Tie{{Name: "b", From: 2, To: 2}}
	check(api.ErrTwice)
	r.Ties[0].Name = "c"
	check(api.ErrUnknown)
	r.Ties[0] = router.Tie{Name: "c", From: 1, To: 1}
	check(api.ErrConflict)
	r.Ties = []router.Tie{{Name: "c", From: 0, To: 1}, {Name: "d", From: 1, To: 0}}
	check(api.ErrUnknown)
	r.Points = []router.Point{{Level: 0, Output: "c", Input: "d"}, {Level: 0, Output: "d", Input: "c"}, {Level: 0, Output: "b", Input: "a"}}
	check(api.ErrOrder)
	r.Points = []router.Point{{Level: 0, Output: "c", Input: "d"}, {Level: 1, Output: "c", Input: "d"}, {Level: 1, Output: "d", Input: "c"}}
	check(api.ErrCycle)
	r.Points = r.Points[:1]
	check(api.ErrOpen)
	r.Points = nil
	check(api.OK)
}

// P5.1: all lists of up to four points of a small router.
func TestCheckRouterOfAllPoints(t *testing.T) {
	r := router.Router{Levels: 1, Matrices: 2, Sources: []router.Source{{Name: "cam", Matrix: 0}, {Name: "vtr", Matrix: 1}}, Destinations: []router.Destination{{Name: "mon", Matrix: 0}, {Name: "air", Matrix: 1}}, Ties: []router.Tie{{Name: "p", From: 0, To: 1}, {Name: "q", From: 1, To: 0}}}
	outputs, inputs := words("mon air p q"), words("cam vtr p q")
	matrixOf := map[string]int{"mon": 0, "air": 1, "p": 0, "q": 1}
	leadsTo := map[string]int{"cam": 0, "vtr": 1, "p": 1, "q": 0}
	var try func(points []router.Point, first int)
	try = func(points []router.Point, first int) {
		r.Points = points
		want(t, points, results(router.CheckRouter(r)), soundness(points))
		for i, output := range outputs {
			for _, input := range inputs {
				next := append(slices.Clone(points), router.Point{Output: output, Input: input})
				r.Points = next
				switch {
				case matrixOf[output] != leadsTo[input]:
					want(t, next, results(router.CheckRouter(r)), api.ErrConflict)
				case i < first:
					want(t, next, results(router.CheckRouter(r)), api.ErrOrder)
				default:
					try(next, i+1)
				}
			}
		}
	}
	try(nil, 0)
}

// soundness returns what CheckRouter is to return for points that are in order, of the ties p and q.
func soundness(points []router.Point) api.Errno {
	inputs := map[string]string{}
	used := map[string]bool{}
	for _, p := range points {
		inputs[p.Output] = p.Input
		used[p.Input] = true
	}
	if inputs["p"] == "q" && inputs["q"] == "p" {
		return api.ErrCycle
	}
	for _, tie := range []string{"p", "q"} {
		if (inputs[tie] != "") != used[tie] {
			return api.ErrOpen
		}
	}
	return api.OK
}

// P5.1: any routers.
func TestStatesOfAnyRouters(t *testing.T) {
	d := dice(1)
	for range 400 {
		r := d.router()
		m := modelOf(r)
		want(t, r, results(router.CheckRouter(r)), api.OK)
		for _, out := range r.Destinations {
			want(t, results(r, out), results(router.Held(r, out.Name)), m.held(out.Name), api.OK)
		}
		for level := range r.Levels {
			users := map[string][]string{}
			for _, out := range r.Destinations {
				source := m.carries(level, out.Name)
				users[source] = append(users[source], out.Name)
				passed := []string{out.Name}
				for at := m.inputs[place{level, out.Name}]; at != ""; at = m.inputs[place{level, at}] {
					passed = slices.Insert(passed, 0, at)
				}
				if source == "" {
					passed = nil
				}
				want(t, results(r, level, out), results(router.Trace(r, level, out.Name)), passed, api.OK)
			}
			for _, s := range r.Sources {
				want(t, results(r, level, s), results(router.Users(r, level, s.Name)), users[s.Name], api.OK)
			}
			var busy []string
			for _, tie := range r.Ties {
				if m.carries(level, tie.Name) != "" {
					busy = append(busy, tie.Name)
				}
			}
			want(t, results(r, level), results(router.Busy(r, level)), busy, api.OK)
		}
	}
}

// P5.1: the errors of the arguments, from left to right.
func TestErrorsOfStates(t *testing.T) {
	for _, r := range routers() {
		for _, name := range names() {
			source, destination := isSource(r.v, name), isDestination(r.v, name)
			wantError(t, results(r.v, name), results(router.Held(r.v, name)), firstError(r.e, destination), []string{})
			for _, level := range numbers(0, r.v.Levels-1, api.ErrRange) {
				wantError(t, results(r.v, level.v, name), results(router.Trace(r.v, level.v, name)), firstError(r.e, level.e, destination), []string{})
				wantError(t, results(r.v, level.v, name), results(router.Users(r.v, level.v, name)), firstError(r.e, level.e, source), []string{})
				wantError(t, results(r.v, level.v), results(router.Busy(r.v, level.v)), firstError(r.e, level.e), []string{})
			}
		}
	}
}
