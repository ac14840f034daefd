package router_test

import (
	"slices"
	"strings"
	"testing"

	"genlock/api"
	"genlock/router"
)

// P5.3: the examples of the chapter.
func TestExamplesOfTakes(t *testing.T) {
	r := must[router.Router](t)(router.Taken(routerR(""), take("air cam cam")))
	want(t, "example 1", results(r), routerR(points1))
	r = must[router.Router](t)(router.Taken(r, take("rec cam .")))
	want(t, "example 2", results(r), routerR(points2))
	four := salvo("air vtr vtr")
	want(t, "example 4", results(router.Salvo(r, four)), routerR(points4), 0, api.OK)
	want(t, "example 4", results(router.Undone(r, four)), salvo("air cam cam"), api.OK)
	five := salvo("rec - .", "mon cam cam")
	want(t, "example 5", results(router.Salvo(hold(points2, "mon"), five)), router.Router{}, 1, api.ErrHeld)
	want(t, "example 5", results(router.Undone(hold(points2, "mon"), five)), []router.Take{}, api.ErrHeld)
}

// P5.3: salvos that are done.
func TestSalvo(t *testing.T) {
	for _, x := range []struct {
		before router.Router
		l      []router.Take
		after  string
		undone []router.Take
	}{
		{routerR(""), salvo("mon . ."), "", salvo("mon . .")},
		{routerR(""), salvo("mon - -"), "", salvo("mon - -")},
		{routerR(""), salvo("mon cam ."), "0 mon cam", salvo("mon - .")},
		{routerR(""), salvo("mon - cam"), "1 mon cam", salvo("mon - -")},
		{routerR(points2), salvo("rec vtr vtr", "air - .", "mon . cam"), "0 rec vtr 1 mon cam 1 air t 1 rec vtr 1 t cam", salvo("rec cam -", "air cam .", "mon . -")},
		{routerR(points2), salvo("air cam cam"), points2, salvo("air cam cam")}, // what it holds already
		{routerR("0 air u 0 u cam"), salvo("air cam ."), "0 air u 0 u cam", salvo("air cam .")},
		{routerR("0 air u 0 rec t 0 t cam 0 u cam"), salvo("air - .", "rec - ."), "", salvo("air cam .", "rec cam .")},
		{routerR("0 air u 0 u cam"), salvo("rec cam .", "air vtr ."), "0 air vtr 0 rec t 0 t cam", salvo("rec - .", "air cam .")}, // u was given free before
		{routerR("0 air u 0 u cam"), salvo("air - -", "rec cam -"), "0 rec t 0 t cam", salvo("air cam -", "rec - -")},
		{routerR(points2), salvo("air - -"), "0 rec t 0 t cam", salvo("air cam cam")},
		{ring("0 x r 0 p a 0 q p 0 r q"), salvo("x - ."), "", salvo("x a .")}, // one tie after the other
		{ring("0 x r 0 y p 0 p a 0 q p 0 r q"), salvo("x a c"), "0 x r 0 y p 0 p a 0 q p 0 r q 1 x r 1 r c", salvo("x a -")},
		{ring("0 x r 0 y p 0 p a 0 q p 0 r q"), salvo("x c ."), "0 x r 0 y p 0 p a 0 r c", salvo("x a .")},
		{ring("0 x r 0 y p 0 p a 0 q p 0 r q"), salvo("z a ."), "0 x r 0 y p 0 z q 0 p a 0 q p 0 r q", salvo("z - .")},
		{ring("0 z over 0 over a"), salvo("y a .", "z b ."), "0 y p 0 z q 0 p a 0 q b", salvo("y - .", "z a .")},
		{ring(""), salvo("z b .", "x b .", "y c ."), "0 x back 0 y p 0 z q 0 p r 0 q b 0 r c 0 back b", salvo("z - .", "x - .", "y - .")},
		{ring(""), salvo("y a .", "z a ."), "0 y p 0 z over 0 p a 0 over a", salvo("y - .", "z - .")},
		{ring(""), salvo("z a .", "y a ."), "0 y p 0 z over 0 p a 0 over a", salvo("z - .", "y - .")},
	} {
		after := x.before
		after.Points = points(x.after)
		want(t, x, results(router.Salvo(x.before, x.l)), after, 0, api.OK)
		want(t, x, results(router.Undone(x.before, x.l)), x.undone, api.OK)
		if len(x.l) == 1 {
			want(t, x, results(router.Taken(x.before, x.l[0])), after, api.OK)
		}
	}
}

// P5.3: salvos that are refused, with the index of the first take for which there is a reason.
func TestRefusedSalvos(t *testing.T) {
	two := routerR("0 air t 0 rec u 0 t cam 0 u cam")
	two.Sources = append(two.Sources, router.Source{Name: "two", Matrix: 0}, router.Source{Name: "three", Matrix: 0})
	for _, x := range []struct {
		before router.Router
		l      []router.Take
		take   int
		e      api.Errno
	}{
		{routerR(""), salvo("mon vtr ."), 0, api.ErrInfeasible},
		{routerR(""), salvo("mon . vtr"), 0, api.ErrInfeasible},
		{routerR(""), salvo("air vtr vtr", "rec cam cam", "mon cam vtr"), 2, api.ErrInfeasible},
		{routerR(""), salvo("mon vtr .", "air . ."), 0, api.ErrInfeasible},
		{hold("", "air"), salvo("mon vtr .", "air . ."), 1, api.ErrHeld}, // before all ways
		{hold("", "air"), salvo("air - -"), 0, api.ErrHeld},
		{hold("", "air", "rec"), salvo("mon vtr vtr", "rec vtr .", "air vtr ."), 1, api.ErrHeld},
		{hold(points1, "air"), salvo("air cam cam"), 0, api.ErrHeld},
		{two, salvo("air two .", "mon three ."), 0, api.OK},
		{two, salvo("air two .", "rec three ."), 0, api.OK},
		{two, salvo("air two ."), 0, api.OK},
		{changed("0 mon cam", func(r *router.Router) { r.Ties = r.Ties[:1] }), salvo("air cam .", "rec cam ."), 0, api.OK},
		{changed("0 air t 0 rec t 0 t cam", func(r *router.Router) { r.Ties, r.Sources = r.Ties[:1], two.Sources }), salvo("air two ."), 0, api.ErrInfeasible},
		{changed("0 air t 0 rec t 0 t cam", func(r *router.Router) { r.Ties, r.Sources = r.Ties[:1], two.Sources }), salvo("air two .", "rec - ."), 0, api.OK},
		{changed("0 air t 0 rec t 0 t cam", func(r *router.Router) { r.Ties, r.Sources = r.Ties[:1], two.Sources }), salvo("air two .", "rec three ."), 1, api.ErrInfeasible},
		{changed("0 air t 0 rec t 0 t cam", func(r *router.Router) { r.Ties, r.Sources = r.Ties[:1], two.Sources }), salvo("mon vtr .", "rec three ."), 0, api.ErrInfeasible},
	} {
		_, at, e := router.Salvo(x.before, x.l)
		want(t, x, results(at, e), x.take, x.e)
		wantError(t, x, results(router.Salvo(x.before, x.l)), x.e, router.Router{}, x.take)
		wantError(t, x, results(router.Undone(x.before, x.l)), x.e, []router.Take{})
		wantError(t, x, results(router.Taken(x.before, x.l[x.take])), single(x.before, x.l[x.take]), router.Router{})
	}
}

// single returns the error of a salvo of one take.
func single(r router.Router, t router.Take) api.Errno {
	_, _, e := modelOf(r).after([]router.Take{t})
	return e
}

// P5.3: any salvos on any routers.
func TestAnySalvos(t *testing.T) {
	d := dice(3)
	done := map[api.Errno]int{}
	for range 800 {
		r := d.router()
		if len(r.Ties) > 4 && d.below(4) > 0 {
			r = modelOf(router.Router{Levels: r.Levels, Matrices: r.Matrices, Sources: r.Sources, Destinations: r.Destinations, Ties: r.Ties[:4]}).router()
		}
		if len(r.Destinations) == 0 || len(r.Sources) == 0 {
			continue
		}
		if d.below(2) == 0 {
			r = free(r)
		}
		m := modelOf(r)
		l := d.salvo(r)
		if d.below(2) == 0 {
			l = l[:1]
		}
		after, at, e := m.after(l)
		done[e]++
		want(t, results(r, l), results(router.Salvo(r, l)), after, at, e)
		var undone []router.Take
		for _, x := range l {
			words := m.held(x.Destination)
			for level, word := range x.Sources {
				if word == "" {
					words[level] = ""
				} else if words[level] == "" {
					words[level] = "-"
				}
			}
			undone = append(undone, router.Take{Destination: x.Destination, Sources: words})
		}
		wantUndone := results(undone, e)
		if e != api.OK {
			wantUndone[0] = []router.Take{}
		}
		want(t, results(r, l), results(router.Undone(r, l)), wantUndone...)
		one, _, e := m.after(l[:1])
		want(t, results(r, l), results(router.Taken(r, l[0])), one, e)
	}
	if done[api.OK] < 100 || done[api.ErrInfeasible] < 100 || done[api.ErrHeld] < 20 {
		t.Errorf("only %v", done)
	}
}

// P5.3: destinations that are protected, and that are not any more.
func TestProtected(t *testing.T) {
	r := must[router.Router](t)(router.Protected(routerR(points2), "rec", true))
	want(t, "rec", results(r), hold(points2, "rec"))
	want(t, "rec again", results(router.Protected(r, "rec", true)), hold(points2, "rec"), api.OK)
	want(t, "mon, too", results(router.Protected(r, "mon", true)), hold(points2, "mon", "rec"), api.OK)
	want(t, "rec no more", results(router.Protected(r, "rec", false)), routerR(points2), api.OK)
	want(t, "air was not", results(router.Protected(r, "air", false)), hold(points2, "rec"), api.OK)
}

// P5.3: destinations that are cleared at all levels.
func TestCleared(t *testing.T) {
	want(t, "air", results(router.Cleared(routerR(points2), "air")), routerR("0 rec t 0 t cam"), api.OK)
	want(t, "rec", results(router.Cleared(routerR(points2), "rec")), routerR(points1), api.OK)
	want(t, "mon", results(router.Cleared(routerR(points2), "mon")), routerR(points2), api.OK)
	want(t, "x", results(router.Cleared(ring("0 x r 0 p a 0 q p 0 r q 1 x a 1 y b"), "x")), ring("1 y b"), api.OK)
	want(t, "air is protected", results(router.Cleared(hold(points2, "air"), "air")), router.Router{}, api.ErrHeld)
	want(t, "mon is protected", results(router.Cleared(hold(points2, "mon"), "mon")), router.Router{}, api.ErrHeld)
	want(t, "another one is protected", results(router.Cleared(hold(points1, "mon", "rec"), "air")), hold("", "mon", "rec"), api.OK)
}

// namesOf returns where the names of a router stand.
func namesOf(r router.Router) []*string {
	var l []*string
	for i := range r.Sources {
		l = append(l, &r.Sources[i].Name)
	}
	for i := range r.Destinations {
		l = append(l, &r.Destinations[i].Name)
	}
	for i := range r.Ties {
		l = append(l, &r.Ties[i].Name)
	}
	for i := range r.Points {
		l = append(l, &r.Points[i].Output, &r.Points[i].Input)
	}
	return l
}

// P5.3: ports of all kinds with other names, also in all points.
func TestRenamed(t *testing.T) {
	long := strings.Repeat("y", 24)
	for old, name := range map[string]string{"a": "Z_9", "b": "source", "x": "zz", "y": "destination", "z": long, "p": "tie", "q": "P", "over": "aa", "back": "point"} {
		r := ring("0 x r 0 y p 0 p a 0 q p 0 r q 1 x back 1 y b 1 z over 1 back b 1 over back")
		r.Destinations[1].Protected = true
		wanted := ring("0 x r 0 y p 0 p a 0 q p 0 r q 1 x back 1 y b 1 z over 1 back b 1 over back")
		wanted.Destinations[1].Protected = true
		for _, at := range namesOf(wanted) {
			if *at == old {
				*at = name
			}
		}
		want(t, old, results(router.Renamed(r, old, name)), wanted, api.OK)
		want(t, old, results(router.CheckRouter(wanted)), api.OK)
		want(t, "back", results(router.Renamed(wanted, name, old)), r, api.OK)
	}
}

// P5.3: the errors of names.
func TestErrorsOfRenamed(t *testing.T) {
	for _, r := range routers() {
		for _, old := range names() {
			if r.e != api.OK && old != "cam" {
				continue
			}
			is := isSource(r.v, old) == api.OK || isDestination(r.v, old) == api.OK || isTie(r.v, old) == api.OK
			for _, name := range append(names(), "9", "new", strings.Repeat("x", 25), "\xff", "a b") {
				taken := isSource(r.v, name) == api.OK || isDestination(r.v, name) == api.OK || isTie(r.v, name) == api.OK
				wrong := slices.Contains([]string{"", "-", "9", strings.Repeat("x", 25), "\xff", "a b"}, name)
				e := firstError(r.e, known(is), errorIf(wrong, api.ErrName), errorIf(taken, api.ErrTwice))
				wantError(t, results(r.v, old, name), results(router.Renamed(r.v, old, name)), e, router.Router{})
			}
		}
	}
}

// errorIf returns an error if something is wrong, otherwise OK.
func errorIf(wrong bool, e api.Errno) api.Errno {
	if wrong {
		return e
	}
	return api.OK
}

// salvos are salvos with the errors that they have for R.
func salvos() []given[[]router.Take] {
	l := []given[[]router.Take]{
		{salvo("air cam cam"), api.OK},
		{salvo("air cam -", "mon . cam", "rec - vtr"), api.OK},
		{nil, api.ErrEmpty},
		{make([]router.Take, 8), api.ErrUnknown},
		{make([]router.Take, 9), api.ErrMany},
		{slices.Repeat(salvo("air cam cam"), 8), api.ErrTwice},
		{slices.Repeat(salvo("air cam cam"), 9), api.ErrMany},
		{salvo("air cam cam", "air cam cam"), api.ErrTwice},
		{salvo("air cam cam", "mon cam cam", "air nobody"), api.ErrTwice},
		{salvo("nobody", "air cam cam", "air cam cam"), api.ErrUnknown},
		{salvo("cam cam cam"), api.ErrUnknown},
		{salvo("t cam cam"), api.ErrUnknown},
		{salvo(". cam cam"), api.ErrUnknown},
		{salvo("- cam cam"), api.ErrUnknown},
		{salvo("air cam cam", "nobody"), api.ErrUnknown},
		{salvo("air"), api.ErrShape},
		{salvo("air cam"), api.ErrShape},
		{salvo("air nobody"), api.ErrShape},
		{salvo("air cam cam cam"), api.ErrShape},
		{salvo("air . . ."), api.ErrShape},
		{salvo("air cam", "nobody cam cam"), api.ErrShape},
		{salvo("air nobody cam"), api.ErrUnknown},
		{salvo("air cam nobody"), api.ErrUnknown},
		{salvo("air mon cam"), api.ErrUnknown},
		{salvo("air cam t"), api.ErrUnknown},
		{salvo("air cam --"), api.ErrUnknown},
		{salvo("air Cam cam"), api.ErrUnknown},
		{salvo("air cam u", "rec cam"), api.ErrUnknown},
		{salvo("mon cam cam", "rec cam", "air cam u"), api.ErrShape},
	}
	return append(l, given[[]router.Take]{[]router.Take{{Destination: "air", Sources: []string{"cam", " "}}}, api.ErrUnknown})
}

// P5.3: the errors of salvos and takes.
func TestErrorsOfSalvos(t *testing.T) {
	for _, r := range routers() {
		for _, l := range salvos() {
			if r.e != api.OK {
				want(t, results(r.v, l), results(router.Salvo(r.v, l.v)), router.Router{}, 0, r.e)
				want(t, results(r.v, l), results(router.Undone(r.v, l.v)), []router.Take{}, r.e)
				want(t, results(r.v, l), results(router.Taken(r.v, pick(new(dice), l.v))), router.Router{}, r.e)
			}
		}
	}
	for _, r := range []router.Router{routerR(""), routerR(points2), hold(points4, "mon", "air", "rec")} {
		for _, l := range salvos() {
			if l.e == api.OK {
				continue
			}
			want(t, results(r, l), results(router.Salvo(r, l.v)), router.Router{}, 0, l.e)
			want(t, results(r, l), results(router.Undone(r, l.v)), []router.Take{}, l.e)
			if len(l.v) == 1 {
				want(t, results(r, l), results(router.Taken(r, l.v[0])), router.Router{}, l.e)
			}
		}
	}
	want(t, "another number of levels", results(router.Salvo(router.Router{Levels: 1, Matrices: 1, Destinations: []router.Destination{{Name: "air"}}}, salvo("air .", "air . ."))), router.Router{}, 0, api.ErrTwice)
	_, at, e := router.Salvo(full(), salvo("d0 . . .", "d1 . . .", "d2 . . .", "d3 . . ."))
	want(t, "four takes", results(at, e), 0, api.OK)
	open := free(full())
	_, at, e = router.Salvo(open, salvo("d0 . . .", "d1 . . .", "d2 . . .", "d3 . . .", "d4 . . .", "d5 - - -", "d6 - - -", "d7 - - -"))
	want(t, "eight takes", results(at, e), 0, api.OK)
}

// P5.3: the errors of Protected and Cleared.
func TestErrorsOfDestinations(t *testing.T) {
	for _, r := range routers() {
		for _, name := range names() {
			e := firstError(r.e, isDestination(r.v, name))
			wantError(t, results(r.v, name), results(router.Protected(r.v, name, true)), e, router.Router{})
			wantError(t, results(r.v, name), results(router.Protected(r.v, name, false)), e, router.Router{})
			isHeld := slices.ContainsFunc(r.v.Destinations, func(d router.Destination) bool { return d.Name == name && d.Protected })
			wantError(t, results(r.v, name), results(router.Cleared(r.v, name)), firstError(e, errorIf(isHeld, api.ErrHeld)), router.Router{})
		}
	}
}
