package router_test

import (
	"math"
	"slices"
	"strings"
	"testing"

	"genlock/api"
	"genlock/router"
)

// P5.2: the examples of the chapter.
func TestExamplesOfWays(t *testing.T) {
	r := routerR("")
	want(t, "cam to air", results(router.Way(r, 0, "cam", "air")), []string{"t"}, api.OK)
	want(t, "cam to rec", results(router.Way(routerR(points1), 0, "cam", "rec")), []string{"t"}, api.OK)
	want(t, "vtr to mon", results(router.Way(r, 0, "vtr", "mon")), []string{}, api.ErrInfeasible)
	want(t, "vtr to mon", results(router.Cut(r, 0, "vtr", "mon")), []int{1}, api.OK)
	want(t, "vtr to mon", results(router.CheckCut(r, 0, "vtr", "mon", []int{1}), router.CheckCut(r, 0, "vtr", "mon", []int{0})), api.OK, api.ErrProof)
}

// P5.2: the least way is that with the fewest ties that are not busy, then with the fewest ties, then the first one.
func TestWay(t *testing.T) {
	far := ring("")
	far.Ties = append(far.Ties, router.Tie{Name: "q2", From: 1, To: 2})
	for _, x := range []struct {
		r                   router.Router
		source, destination string
		way                 string
		e                   api.Errno
	}{
		{routerR(""), "cam", "mon", "", api.OK},
		{routerR("0 air vtr"), "cam", "air", "t", api.OK},
		{routerR("0 mon cam"), "cam", "mon", "", api.OK},
		{routerR("0 air u 0 u cam"), "cam", "air", "u", api.OK},
		{routerR("0 air u 0 u cam"), "cam", "rec", "u", api.OK},
		{routerR("1 air u 1 u cam"), "cam", "rec", "t", api.OK},
		{routerR("0 air u 0 rec t 0 t cam 0 u cam"), "cam", "rec", "t", api.OK},
		{ring(""), "a", "x", "", api.OK},
		{ring(""), "a", "z", "over", api.OK},
		{ring(""), "b", "z", "q", api.OK},
		{ring(""), "c", "y", "r p", api.OK},
		{ring("0 z over 0 over a"), "a", "z", "over", api.OK},
		{ring("0 y p 0 p a"), "a", "z", "over", api.OK}, // one tie that is not busy, as p, q, but fewer ties
		{ring("0 x back 0 z over 0 back b 0 over back"), "b", "z", "over", api.OK},
		{ring("0 x back 0 z over 0 back b 0 over back"), "a", "z", "p q", api.OK},
		{ring("0 x back 0 y p 0 z over 0 p a 0 back b 0 over back"), "a", "z", "p q", api.OK},
		{ring("0 x back 0 y p 0 z over 0 p back 0 back b 0 over back"), "a", "z", "", api.ErrInfeasible},
		{ring("0 z q 0 q b"), "b", "x", "back", api.OK},                   // one tie that is not busy, as q, r, but fewer ties
		{ring("0 z q 0 q b 1 x back 1 back b"), "b", "x", "back", api.OK}, // what is busy at another level
		{far, "b", "z", "q", api.OK},
		{far, "a", "z", "over", api.OK},
	} {
		want(t, x, results(router.Way(x.r, 0, x.source, x.destination)), words(x.way), x.e)
	}
}

// P5.2: a tie that is busy may begin a way wherever it leads from, but not go on with it.
func TestBusyTies(t *testing.T) {
	r := ring("0 x r 0 p a 0 q p 0 r q")
	for _, x := range []struct {
		source, destination, way string
		e                        api.Errno
	}{
		{"a", "x", "", api.OK}, {"a", "x", "r", api.OK}, {"a", "x", "p back", api.OK}, {"a", "x", "over", api.ErrProof}, {"a", "x", "p q r", api.ErrProof}, {"a", "x", "q r", api.ErrProof},
		{"a", "y", "p", api.OK}, {"a", "y", "r p", api.ErrProof}, {"a", "y", "", api.ErrProof}, {"a", "y", "back p", api.ErrProof},
		{"a", "z", "q", api.OK}, {"a", "z", "over", api.OK}, {"a", "z", "r over", api.OK}, {"a", "z", "p back over", api.OK}, {"a", "z", "p q", api.ErrProof}, {"a", "z", "back over", api.ErrProof}, {"a", "z", "p over", api.ErrProof},
		{"b", "z", "back over", api.OK}, {"b", "z", "q", api.ErrProof}, {"b", "z", "over", api.ErrProof}, {"b", "x", "back", api.OK}, {"b", "y", "", api.OK}, {"b", "y", "back p", api.ErrProof}, {"b", "z", "", api.ErrProof},
		{"c", "z", "", api.OK}, {"c", "z", "over", api.ErrProof}, {"c", "x", "r", api.ErrProof}, {"c", "x", "", api.ErrProof},
	} {
		want(t, x, results(router.CheckWay(r, 0, x.source, x.destination, words(x.way))), x.e)
	}
	want(t, "a to y", results(router.Way(r, 0, "a", "y")), []string{"p"}, api.OK)
	want(t, "a to z", results(router.Way(r, 0, "a", "z")), []string{"q"}, api.OK)
	want(t, "b to z", results(router.Way(r, 0, "b", "z")), []string{"back", "over"}, api.OK)
	want(t, "c to x", results(router.Cut(r, 0, "c", "x")), []int{2}, api.OK)
	want(t, "c to x at another level", results(router.Way(r, 1, "c", "x")), []string{"r"}, api.OK)
}

// P5.2: what a destination holds plays no part in ways.
func TestWaysToDestinationsInUse(t *testing.T) {
	r := routerR("0 air t 0 rec u 0 t cam 0 u cam")
	r.Sources = append(r.Sources, router.Source{Name: "two", Matrix: 0})
	want(t, "two to air", results(router.Way(r, 0, "two", "air")), []string{}, api.ErrInfeasible)
	want(t, "two to air", results(router.Cut(r, 0, "two", "air")), []int{0}, api.OK)
	want(t, "cam to air", results(router.Way(r, 0, "cam", "air")), []string{"t"}, api.OK)
	want(t, "cam to air", results(router.CheckWay(r, 0, "cam", "air", []string{"u"})), api.OK)
	want(t, "vtr to air", results(router.Way(hold("0 air t 0 t cam", "air"), 0, "vtr", "air")), []string{}, api.OK)
}

// P5.2: cuts that are not the least ones, and sets that are none.
func TestCheckCut(t *testing.T) {
	r := router.Router{Levels: 1, Matrices: 4, Sources: []router.Source{{Name: "a", Matrix: 0}, {Name: "b", Matrix: 1}}, Destinations: []router.Destination{{Name: "x", Matrix: 1}, {Name: "y", Matrix: 2}, {Name: "z", Matrix: 3}}, Ties: []router.Tie{{Name: "p", From: 0, To: 1}, {Name: "q", From: 1, To: 2}, {Name: "r", From: 2, To: 0}}, Points: points("0 x p 0 p a")}
	for _, x := range []struct {
		source, destination string
		cut                 []int
		e                   api.Errno
	}{
		{"a", "z", []int{0, 1, 2}, api.OK}, {"a", "z", []int{0}, api.ErrProof}, {"a", "z", []int{0, 1}, api.ErrProof}, {"a", "z", nil, api.ErrProof}, {"a", "z", []int{0, 1, 2, 3}, api.ErrProof}, {"a", "z", []int{1, 2}, api.ErrProof},
		{"b", "x", []int{1}, api.ErrProof}, {"b", "x", []int{0, 2, 3}, api.ErrProof}, {"b", "z", []int{0, 1, 2}, api.OK}, {"b", "z", []int{1, 2}, api.ErrProof},
		{"a", "x", []int{0}, api.ErrProof}, {"a", "x", []int{0, 2}, api.ErrProof}, {"b", "z", []int{3}, api.ErrProof},
	} {
		want(t, x, results(router.CheckCut(r, 0, x.source, x.destination, x.cut)), x.e)
	}
	want(t, "a to z", results(router.Cut(r, 0, "a", "z")), []int{0, 1, 2}, api.OK)
	want(t, "b to z", results(router.Cut(r, 0, "b", "z")), []int{0, 1, 2}, api.OK)
	want(t, "b to x", results(router.Cut(r, 0, "b", "x")), []int{}, api.ErrConflict)
	want(t, "a to x", results(router.Cut(r, 0, "a", "x")), []int{}, api.ErrConflict)
	r.Ties = r.Ties[:2]
	want(t, "b to z", results(router.Cut(r, 0, "b", "z")), []int{1, 2}, api.OK)
	want(t, "with a matrix from which none leads", results(router.CheckCut(r, 0, "b", "z", []int{0, 1, 2})), api.OK)
	want(t, "with a matrix from which a busy tie leads", results(router.CheckCut(routerR("0 air u 0 rec t 0 t cam 0 u cam"), 0, "vtr", "mon", []int{1})), api.OK)
}

// P5.2: all ways and cuts of any routers.
func TestWaysOfAnyRouters(t *testing.T) {
	d := dice(2)
	for range 150 {
		r := d.router()
		m := modelOf(r)
		lists, sets := m.lists(), m.sets()
		for range 6 {
			level, source, destination := d.below(r.Levels), pick(&d, r.Sources).Name, pick(&d, r.Destinations).Name
			if source == "" || destination == "" {
				continue
			}
			at := results(r, level, source, destination)
			way, ok := m.least(level, source, destination)
			cut, none := m.leastCut(level, source, destination)
			if ok == none {
				t.Fatalf("%+v: the way %v, the cut %v", at, way, cut)
			}
			if ok {
				want(t, at, results(router.Way(r, level, source, destination)), way, api.OK)
				want(t, at, results(router.Cut(r, level, source, destination)), []int{}, api.ErrConflict)
			} else {
				want(t, at, results(router.Way(r, level, source, destination)), []string{}, api.ErrInfeasible)
				want(t, at, results(router.Cut(r, level, source, destination)), cut, api.OK)
			}
			for range 40 {
				l := pick(&d, lists)
				want(t, results(at, l), results(router.CheckWay(r, level, source, destination, l)), proof(m.isWay(level, source, destination, l)))
			}
			for _, l := range lists {
				if m.isWay(level, source, destination, l) {
					want(t, results(at, l), results(router.CheckWay(r, level, source, destination, l)), api.OK)
				}
			}
			for _, l := range sets {
				want(t, results(at, l), results(router.CheckCut(r, level, source, destination, l)), proof(m.isCut(level, source, destination, l)))
			}
		}
	}
}

// proof returns OK for what proves something, otherwise ErrProof.
func proof(is bool) api.Errno {
	if is {
		return api.OK
	}
	return api.ErrProof
}

// lists are lists of names with the errors that they have as ways of R.
func lists() []given[[]string] {
	return []given[[]string]{
		{nil, api.OK}, {[]string{"t"}, api.OK}, {[]string{"u", "t"}, api.OK},
		{[]string{"nobody"}, api.ErrUnknown}, {[]string{"cam"}, api.ErrUnknown}, {[]string{"air"}, api.ErrUnknown}, {[]string{""}, api.ErrUnknown}, {[]string{"t", "T"}, api.ErrUnknown},
		{[]string{"t", "t"}, api.ErrTwice}, {[]string{"t", "u", "t", "nobody"}, api.ErrTwice}, {[]string{"t", "nobody", "t"}, api.ErrUnknown}, {[]string{"nobody", "nobody"}, api.ErrUnknown},
		{slices.Repeat([]string{"t"}, 6), api.ErrTwice}, {slices.Repeat([]string{"t"}, 7), api.ErrMany}, {make([]string, 7), api.ErrMany}, {make([]string, 6), api.ErrUnknown}, {make([]string, 1000), api.ErrMany},
	}
}

// matrices are lists of matrices with the errors that they have as cuts of R.
func matrices() []given[[]int] {
	l := []given[[]int]{
		{nil, api.OK}, {[]int{0, 1}, api.OK}, {[]int{1, 0}, api.ErrOrder}, {[]int{1, 1}, api.ErrOrder}, {[]int{0, 1, 0, 2}, api.ErrOrder}, {[]int{0, 2, 1}, api.ErrUnknown}, {[]int{0, 0, 2}, api.ErrOrder},
		{make([]int, 4), api.ErrOrder}, {make([]int, 5), api.ErrMany}, {[]int{9, 9, 9, 9, 9}, api.ErrMany}, {[]int{0, 1, 2, 3}, api.ErrUnknown},
	}
	for _, n := range numbers(0, 1, api.ErrUnknown) {
		l = append(l, given[[]int]{[]int{n.v}, n.e})
	}
	return l
}

// P5.2: the errors of the arguments, from left to right.
func TestErrorsOfWays(t *testing.T) {
	check := func(r given[router.Router], level given[int], source, destination string) {
		e := firstError(r.e, level.e, isSource(r.v, source), isDestination(r.v, destination))
		if e == api.OK {
			return
		}
		at := results(r.v, level.v, source, destination)
		want(t, at, results(router.Way(r.v, level.v, source, destination)), []string{}, e)
		want(t, at, results(router.Cut(r.v, level.v, source, destination)), []int{}, e)
		want(t, at, results(router.CheckWay(r.v, level.v, source, destination, []string{"t", "t"})), e)
		want(t, at, results(router.CheckCut(r.v, level.v, source, destination, []int{1, 1})), e)
	}
	for _, r := range routers() {
		for _, level := range numbers(0, r.v.Levels-1, api.ErrRange) {
			check(r, level, "cam", "air")
			check(r, level, "nobody", "air")
			check(r, level, "cam", "nobody")
		}
	}
	for _, source := range names() {
		for _, destination := range names() {
			for _, level := range numbers(0, 1, api.ErrRange) {
				check(given[router.Router]{routerR(points2), api.OK}, level, source, destination)
			}
		}
	}
}

// P5.2: the errors of ways and cuts, before they are tried.
func TestErrorsOfProofs(t *testing.T) {
	for _, s := range []string{"", points1, points2, points4} {
		r := routerR(s)
		for _, l := range lists() {
			e := firstError(l.e, proof(l.e == api.OK && len(l.v) == 1))
			want(t, results(r, l), results(router.CheckWay(r, 1, "cam", "air", l.v)), e)
		}
		for _, l := range matrices() {
			e := firstError(l.e, proof(slices.Equal(l.v, []int{1})))
			want(t, results(r, l), results(router.CheckCut(r, 1, "vtr", "mon", l.v)), e)
		}
	}
	r := full()
	six := strings.Fields("t0 t1 t2 t3 t4 t5")
	want(t, six, results(router.CheckWay(r, 0, "s0", "d0", six)), api.ErrProof)
	want(t, six, results(router.CheckWay(r, 0, "s0", "d1", six[:5])), api.OK)
	want(t, six, results(router.CheckWay(r, 0, "s0", "d2", six[:5])), api.ErrProof)
	want(t, "all matrices", results(router.CheckCut(r, 0, "s0", "d2", []int{0, 1, 2, 3})), api.ErrProof)
	want(t, "more", results(router.CheckCut(r, 0, "s0", "d2", []int{0, 1, 2, 3, 4}), router.CheckCut(r, 0, "s0", "d2", []int{0, 1, 2, 4}), router.CheckCut(r, 0, "s0", "d2", []int{math.MaxInt})), api.ErrMany, api.ErrUnknown, api.ErrUnknown)
}
