package router_test

import (
	"math"
	"slices"
	"strings"
	"testing"

	"genlock/api"
	"genlock/router"
)

// The limits of the chapter.
func TestLimits(t *testing.T) {
	want(t, "limits", results(router.MaxLevels, router.MaxMatrices, router.MaxSources, router.MaxDestinations, router.MaxTies, router.MaxTakes, router.MaxOrders, router.Nothing), 3, 4, 8, 8, 6, 8, 16, "-")
}

// clobber changes all elements of a list, and what follows them in its memory.
func clobber[T any](l []T, x T) {
	for i := range l {
		l[i] = x
	}
	_ = append(l, x)
}

// clobberRouter changes all of a router's memory.
func clobberRouter(r router.Router) {
	clobber(r.Sources, router.Source{Name: "changed"})
	clobber(r.Destinations, router.Destination{Name: "changed"})
	clobber(r.Ties, router.Tie{Name: "changed"})
	clobber(r.Points, router.Point{Output: "changed"})
}

// spare returns a list with free memory behind it.
func spare[T any](l []T) []T {
	return append(make([]T, 0, 60), l...)
}

// spareRouter returns a router with free memory behind its lists.
func spareRouter(r router.Router) router.Router {
	r.Sources, r.Destinations, r.Ties, r.Points = spare(r.Sources), spare(r.Destinations), spare(r.Ties), spare(r.Points)
	return r
}

// Arguments are neither changed nor kept, and results share no memory with them or with each other.
func TestMemory(t *testing.T) {
	r, takes, orders := spareRouter(routerR(points2)), spare(salvo("air vtr vtr")), spare(ordersR())
	takes[0].Sources = spare(takes[0].Sources)
	way, cut := spare([]string{"t"}), spare([]int{1})
	for range 3 { // each time all is as it was
		after, _, e := router.Salvo(r, takes)
		want(t, "Salvo", results(after, e), routerR(points4), api.OK)
		same, e := router.Taken(r, takes[0])
		want(t, "Taken", results(same, e), routerR(points4), api.OK)
		nothing, e := router.Taken(r, take("mon . ."))
		want(t, "Taken", results(nothing, e), routerR(points2), api.OK)
		undone, e := router.Undone(r, takes)
		want(t, "Undone", results(undone, e), salvo("air cam cam"), api.OK)
		held, e := router.Protected(r, "rec", true)
		want(t, "Protected", results(held, e), hold(points2, "rec"), api.OK)
		cleared, e := router.Cleared(r, "air")
		want(t, "Cleared", results(cleared, e), routerR("0 rec t 0 t cam"), api.OK)
		renamed, e := router.Renamed(r, "mon", "other")
		want(t, "Renamed", results(renamed.Destinations[0].Name, e), "other", api.OK)
		ran, _, e := router.Run(r, orders)
		want(t, "Run", results(ran, e), routerR(points4), api.OK)
		still, _, e := router.Run(r, nil)
		want(t, "Run without orders", results(still, e), routerR(points2), api.OK)
		parsed, _, e := router.Parse(textR)
		want(t, "Parse", results(parsed, e), routerR(""), api.OK)
		for _, changed := range []router.Router{after, same, nothing, held, cleared, renamed, ran, still, parsed} {
			clobberRouter(changed)
		}
		for _, x := range undone {
			clobber(x.Sources, "changed")
		}
		clobber(undone, router.Take{Destination: "changed"})
		clobber(must[[]string](t)(router.Held(r, "air")), "changed")
		clobber(must[[]string](t)(router.Trace(r, 0, "air")), "changed")
		clobber(must[[]string](t)(router.Busy(r, 0)), "changed")
		clobber(must[[]string](t)(router.Users(r, 0, "cam")), "changed")
		clobber(must[[]string](t)(router.Way(r, 0, "cam", "air")), "changed")
		clobber(must[[]int](t)(router.Cut(r, 0, "vtr", "mon")), 77)
		clobber(must[[]string](t)(router.Seen(r, orders, "air", 11)), "changed")
		want(t, "CheckWay, CheckCut", results(router.CheckWay(r, 0, "cam", "air", way), router.CheckCut(r, 0, "vtr", "mon", cut)), api.OK, api.OK)
		want(t, "arguments", results(r, takes, orders, way, cut), routerR(points2), salvo("air vtr vtr"), ordersR(), []string{"t"}, []int{1})
		want(t, "behind them", results(r.Points[:60][5:], r.Sources[:60][2:], r.Destinations[:60][3:], r.Ties[:60][2:]), make([]router.Point, 55), make([]router.Source, 58), make([]router.Destination, 57), make([]router.Tie, 58))
		want(t, "behind them", results(takes[:60][1:], takes[0].Sources[:60][2:], orders[:60][3:], way[:60][1:], cut[:60][1:]), make([]router.Take, 59), make([]string, 58), make([]router.Order, 57), make([]string, 59), make([]int, 59))
	}
}

// Results do not change with the arguments.
func TestResultsStay(t *testing.T) {
	r, takes := spareRouter(routerR(points2)), salvo("air vtr .")
	after := must[router.Router](t)(router.Taken(r, takes[0]))
	undone := must[[]router.Take](t)(router.Undone(r, takes))
	held := must[router.Router](t)(router.Protected(r, "mon", false))
	renamed := must[router.Router](t)(router.Renamed(r, "mon", "other"))
	still, _, _ := router.Run(r, nil)
	clobberRouter(r)
	clobber(takes[0].Sources, "changed")
	clobber(takes, router.Take{Destination: "changed"})
	want(t, "Taken", results(after), routerR("0 air vtr 0 rec t 0 t cam 1 air t 1 t cam"))
	want(t, "Undone", results(undone), salvo("air cam ."))
	want(t, "Protected, Run", results(held, still), routerR(points2), routerR(points2))
	want(t, "Renamed", results(router.Renamed(renamed, "other", "mon")), routerR(points2), api.OK)
}

// The same arguments have the same results.
func TestSameResults(t *testing.T) {
	d := dice(13)
	for range 100 {
		r := d.playable()
		l, source, destination := d.salvo(r), pick(&d, r.Sources).Name, pick(&d, r.Destinations).Name
		after, at, e := router.Salvo(r, l)
		way, none := router.Way(r, 0, source, destination)
		cut, both := router.Cut(r, 0, source, destination)
		for range 5 {
			want(t, results(r, l), results(router.Salvo(r, l)), after, at, e)
			want(t, results(r, source, destination), results(router.Way(r, 0, source, destination)), way, none)
			want(t, results(r, source, destination), results(router.Cut(r, 0, source, destination)), cut, both)
		}
	}
}

// strange are numbers of all kinds.
func strange() []int {
	return []int{math.MinInt, math.MinInt + 1, -1 << 32, -1, 0, 0, 1, 1, 2, 3, 4, 5, 1 << 32, math.MaxInt - 1, math.MaxInt}
}

// any returns any router, well-formed or not.
func (d *dice) any() router.Router {
	r := d.router()
	some := func() int { return pick(d, strange()) }
	for range d.below(4) {
		switch d.below(8) {
		case 0:
			r.Levels = some()
		case 1:
			r.Matrices = some()
		case 2:
			r.Sources = append(r.Sources, router.Source{Name: d.anyName(r), Matrix: some()})
		case 3:
			r.Destinations = append(r.Destinations, router.Destination{Name: d.anyName(r), Matrix: some()})
		case 4:
			r.Ties = append(r.Ties, router.Tie{Name: "new", From: some(), To: some()})
		case 5:
			r.Points = append(r.Points, router.Point{Level: some(), Output: d.anyName(r), Input: d.anyName(r)})
		case 6:
			r.Points = slices.Repeat(r.Points, d.below(4))
		case 7:
			if len(r.Points) > 0 {
				i := d.below(len(r.Points))
				r.Points = slices.Delete(r.Points, i, i+1)
			}
		}
	}
	return r
}

// P1: no function panics, for strange arguments.
func TestAllArguments(t *testing.T) {
	d := dice(14)
	for range 10000 {
		r := d.any()
		name := func() string {
			return d.anyName(router.Router{Sources: r.Sources, Destinations: r.Destinations, Ties: r.Ties})
		}
		some := func() int { return pick(&d, strange()) }
		var list []string
		var cut []int
		var takes []router.Take
		for range d.below(5) {
			list, cut = append(list, name()), append(cut, some())
			takes = append(takes, router.Take{Destination: name(), Sources: list})
		}
		router.CheckRouter(r)
		router.Held(r, name())
		router.Trace(r, some(), name())
		router.Busy(r, some())
		router.Users(r, some(), name())
		router.Way(r, some(), name(), name())
		router.CheckWay(r, some(), name(), name(), list)
		router.Cut(r, some(), name(), name())
		router.CheckCut(r, some(), name(), name(), cut)
		router.Salvo(r, takes)
		router.Undone(r, takes)
		router.Taken(r, router.Take{Destination: name(), Sources: list})
		router.Protected(r, name(), true)
		router.Cleared(r, name())
		router.Renamed(r, name(), name())
		router.Run(r, []router.Order{{Frame: some(), Takes: takes}, {Frame: some(), Takes: takes}})
		router.Seen(r, []router.Order{{Frame: some(), Takes: takes}}, name(), some())
		router.Print(r)
	}
}

// P1: texts without a form.
func TestAllTexts(t *testing.T) {
	d := dice(15)
	for range 5000 {
		s := []byte(textP)
		for range 1 + d.below(4) {
			s[d.below(len(s))] = " \nrouteniscamvt0123-\xff"[d.below(20)]
		}
		s = s[:d.below(len(s)+1)]
		r, at, e := router.Parse(string(s))
		switch {
		case e == api.OK:
			want(t, string(s), results(at, router.CheckRouter(r)), 0, api.OK)
			want(t, string(s), results(must[string](t)(router.Print(r))), string(s))
		case r.Levels != 0 || len(r.Sources)+len(r.Points) > 0 || at < 0 || at > 1+strings.Count(string(s), "\n"):
			t.Errorf("%q: got %v, %d, %d", s, r, at, e)
		}
	}
}
