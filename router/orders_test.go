package router_test

import (
	"math"
	"slices"
	"testing"

	"genlock/api"
	"genlock/router"
)

// ordersR are those of the chapter's examples, and the example 2 between them.
func ordersR() []router.Order {
	return []router.Order{order(10, "air cam cam"), order(11, "rec cam ."), order(12, "air vtr vtr")}
}

// P5.4: the examples of the chapter.
func TestExamplesOfOrders(t *testing.T) {
	l := []router.Order{order(10, "air cam cam"), order(12, "air vtr vtr")}
	want(t, "at 9", results(router.Seen(routerR(""), l, "air", 9)), []string{"", ""}, api.OK)
	want(t, "at 11", results(router.Seen(routerR(""), l, "air", 11)), []string{"cam", "cam"}, api.OK)
	want(t, "at 12", results(router.Seen(routerR(""), l, "air", 12)), []string{"vtr", "vtr"}, api.OK)
	want(t, "after all", results(router.Run(routerR(""), l)), routerR("0 air vtr 1 air vtr"), 0, api.OK)
}

// P5.4: what a destination holds at each frame.
func TestSeen(t *testing.T) {
	want(t, "after all", results(router.Run(routerR(""), ordersR())), routerR(points4), 0, api.OK)
	for _, x := range []struct {
		destination string
		frame       int
		held        []string
	}{
		{"air", 0, []string{"", ""}}, {"air", 9, []string{"", ""}}, {"air", 10, []string{"cam", "cam"}}, {"air", 11, []string{"cam", "cam"}}, {"air", 12, []string{"vtr", "vtr"}}, {"air", maxTime, []string{"vtr", "vtr"}},
		{"rec", 10, []string{"", ""}}, {"rec", 11, []string{"cam", ""}}, {"rec", 12, []string{"cam", ""}}, {"mon", 12, []string{"", ""}},
	} {
		want(t, x, results(router.Seen(routerR(""), ordersR(), x.destination, x.frame)), x.held, api.OK)
	}
	want(t, "no orders", results(router.Seen(routerR(points2), nil, "rec", 0)), []string{"cam", ""}, api.OK)
	want(t, "no orders", results(router.Run(routerR(points2), nil)), routerR(points2), 0, api.OK)
	ends := []router.Order{order(0, "mon cam ."), order(maxTime, "mon - cam")}
	want(t, "the first frame", results(router.Seen(routerR(""), ends, "mon", 0)), []string{"cam", ""}, api.OK)
	want(t, "the frame before the last", results(router.Seen(routerR(""), ends, "mon", maxTime-1)), []string{"cam", ""}, api.OK)
	want(t, "the last frame", results(router.Seen(routerR(""), ends, "mon", maxTime)), []string{"", "cam"}, api.OK)
}

// P5.4: orders that are refused; those behind the frame do not matter to Seen.
func TestRefusedOrders(t *testing.T) {
	r := hold("", "rec")
	l := []router.Order{order(1, "air cam ."), order(3, "air - .", "mon vtr ."), order(5, "rec . ."), order(7, "mon vtr .")}
	want(t, "no way", results(router.Run(r, l)), router.Router{}, 1, api.ErrInfeasible)
	want(t, "protected", results(router.Run(r, slices.Delete(slices.Clone(l), 1, 2))), router.Router{}, 1, api.ErrHeld)
	want(t, "the last one", results(router.Run(r, []router.Order{l[0], order(2, "mon cam cam"), l[3]})), router.Router{}, 2, api.ErrInfeasible)
	want(t, "the first one", results(router.Run(r, l[2:])), router.Router{}, 0, api.ErrHeld)
	want(t, "before it", results(router.Seen(r, l, "air", 2)), []string{"cam", ""}, api.OK)
	want(t, "at it", results(router.Seen(r, l, "air", 3)), []string{}, api.ErrInfeasible)
	want(t, "behind it", results(router.Seen(r, l, "air", 100)), []string{}, api.ErrInfeasible)
	want(t, "protected", results(router.Seen(r, l[2:], "air", 5)), []string{}, api.ErrHeld)
	want(t, "before it", results(router.Seen(r, l[2:], "air", 4)), []string{"", ""}, api.OK)
}

// P5.4: each order is carried out as the router is by then.
func TestOrdersFollowOneAnother(t *testing.T) {
	r := changed("", func(r *router.Router) {
		r.Ties = r.Ties[:1]
		r.Sources = append(r.Sources, router.Source{Name: "two", Matrix: 0})
	})
	busy := []router.Order{order(1, "air cam ."), order(2, "rec two .")}
	want(t, "a tie that is busy by then", results(router.Run(r, busy)), router.Router{}, 1, api.ErrInfeasible)
	r.Points = points("0 air t 0 rec t 0 t cam")
	freed := []router.Order{order(1, "air - ."), order(2, "rec - ."), order(3, "air two .")}
	after := r
	after.Points = points("0 air t 0 t two")
	want(t, "a tie that is free by then", results(router.Run(r, freed)), after, 0, api.OK)
	want(t, "a tie that is not free yet", results(router.Run(r, []router.Order{freed[0], freed[2]})), router.Router{}, 1, api.ErrInfeasible)
}

// P5.4: any orders on any routers.
func TestAnyOrders(t *testing.T) {
	d := dice(4)
	done := map[api.Errno]int{}
	for range 150 {
		r := free(d.router())
		r.Ties = r.Ties[:min(len(r.Ties), 4)]
		r.Points = nil
		if len(r.Destinations) == 0 || len(r.Sources) == 0 {
			continue
		}
		var l []router.Order
		for i := range d.below(6) {
			takes := d.salvo(r)
			l = append(l, router.Order{Frame: 3*i + d.below(3), Takes: takes[:min(len(takes), 2)]})
		}
		by, refused, e := r, 0, api.OK
		states := []router.Router{r}
		for i, o := range l {
			next, _, wrong := modelOf(by).after(o.Takes)
			if wrong != api.OK {
				by, refused, e = router.Router{}, i, wrong
				break
			}
			by = next
			states = append(states, by)
		}
		done[e]++
		want(t, results(r, l), results(router.Run(r, l)), by, refused, e)
		for frame := range 18 {
			out := pick(&d, r.Destinations).Name
			n := 0
			for n < len(l) && l[n].Frame <= frame {
				n++
			}
			if n >= len(states) {
				want(t, results(r, l, frame), results(router.Seen(r, l, out, frame)), []string{}, e)
				continue
			}
			want(t, results(r, l, frame), results(router.Seen(r, l, out, frame)), modelOf(states[n]).held(out), api.OK)
		}
	}
	if done[api.OK] < 20 || done[api.ErrInfeasible] < 20 {
		t.Errorf("only %v", done)
	}
}

// orders are orders with the errors that they have for R.
func orders() []given[[]router.Order] {
	sixteen := []router.Order{}
	for i := range 16 {
		sixteen = append(sixteen, order(i, "mon cam ."))
	}
	l := []given[[]router.Order]{
		{nil, api.OK},
		{ordersR(), api.OK},
		{sixteen, api.OK},
		{append(slices.Clone(sixteen), order(16, "mon cam .")), api.ErrMany},
		{make([]router.Order, 16), api.ErrEmpty},
		{make([]router.Order, 17), api.ErrMany},
		{[]router.Order{order(0, "mon cam ."), order(0, "mon cam .")}, api.ErrOrder},
		{[]router.Order{order(5, "mon cam ."), order(4, "mon cam .")}, api.ErrOrder},
		{[]router.Order{order(5, "mon cam ."), order(5)}, api.ErrOrder},
		{[]router.Order{order(5, "mon cam ."), order(6)}, api.ErrEmpty},
		{[]router.Order{order(5), order(5)}, api.ErrEmpty},
		{[]router.Order{order(-1), order(5)}, api.ErrRange},
		{[]router.Order{order(5, "mon cam ."), order(-1)}, api.ErrRange},
		{[]router.Order{order(maxTime, "mon cam ."), order(maxTime+1, "mon cam .")}, api.ErrRange},
		{[]router.Order{order(7, "mon vtr ."), order(9, "mon")}, api.ErrShape}, // refused, but this comes after all errors
	}
	for _, n := range numbers(0, maxTime, api.ErrRange) {
		l = append(l, given[[]router.Order]{[]router.Order{order(n.v, "air cam .")}, n.e})
	}
	for _, takes := range salvos() {
		l = append(l, given[[]router.Order]{[]router.Order{{Frame: 3, Takes: takes.v}}, takes.e})
		l = append(l, given[[]router.Order]{[]router.Order{order(2, "air cam ."), {Frame: 3, Takes: takes.v}, order(3)}, firstError(takes.e, api.ErrOrder)})
	}
	return l
}

// P5.4: the errors of the arguments, from left to right.
func TestErrorsOfOrders(t *testing.T) {
	check := func(r given[router.Router], l given[[]router.Order], destination string, frame given[int]) {
		e := firstError(r.e, l.e, isDestination(r.v, destination), frame.e)
		wantError(t, results(r, l, destination, frame), results(router.Seen(r.v, l.v, destination, frame.v)), e, []string{})
	}
	for _, r := range routers() {
		if r.e == api.OK {
			continue
		}
		want(t, r, results(router.Run(r.v, ordersR())), router.Router{}, 0, r.e)
		for _, l := range orders() {
			check(r, l, "air", given[int]{5, api.OK})
		}
	}
	r := given[router.Router]{routerR(points2), api.OK}
	for _, l := range orders() {
		if l.e != api.OK {
			want(t, l, results(router.Run(r.v, l.v)), router.Router{}, 0, l.e)
		} else {
			_, at, e := router.Run(r.v, l.v)
			want(t, l, results(at, e), 0, api.OK)
		}
		for _, destination := range names() {
			for _, frame := range append(numbers(0, maxTime, api.ErrRange), given[int]{math.MinInt32, api.ErrRange}) {
				check(r, l, destination, frame)
			}
		}
	}
}
