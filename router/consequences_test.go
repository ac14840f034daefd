package router_test

import (
	"slices"
	"testing"

	"genlock/api"
	"genlock/router"
)

// playable returns any router that has sources and destinations.
func (d *dice) playable() router.Router {
	for {
		if r := d.router(); len(r.Sources) > 0 && len(r.Destinations) > 0 {
			return r
		}
	}
}

// holdings returns what all destinations of a router hold.
func holdings(t *testing.T, r router.Router) map[string][]string {
	t.Helper()
	all := map[string][]string{}
	for _, d := range r.Destinations {
		all[d.Name] = must[[]string](t)(router.Held(r, d.Name))
	}
	return all
}

// P5.5 and P5: after a salvo each of its destinations holds what was asked for, and all others hold what they held.
func TestSalvosAreWhole(t *testing.T) {
	d := dice(5)
	done := 0
	for range 2000 {
		r := d.playable()
		l := d.salvo(r)
		l = l[:1+d.below(len(l))]
		wanted := holdings(t, r)
		after, _, e := router.Salvo(r, l)
		if e != api.OK {
			want(t, results(r, l), results(after), router.Router{})
			continue
		}
		done++
		for _, x := range l {
			for level, word := range x.Sources {
				switch word {
				case "":
				case "-":
					wanted[x.Destination][level] = ""
				default:
					wanted[x.Destination][level] = word
				}
			}
		}
		want(t, results(r, l), results(router.CheckRouter(after), holdings(t, after)), api.OK, wanted)
		ports := results(after.Levels, after.Matrices, after.Sources, after.Destinations, after.Ties)
		want(t, results(r, l), ports, r.Levels, r.Matrices, r.Sources, r.Destinations, r.Ties)
	}
	if done < 300 {
		t.Errorf("only %d salvos", done)
	}
}

// P5.5: a salvo that is refused is refused whole: there is no other router, and what was held before it is still held.
func TestRefusedSalvosChangeNothing(t *testing.T) {
	d := dice(6)
	refused := 0
	for range 1000 {
		r := d.playable()
		l := d.salvo(r)
		copied := modelOf(r).router()
		after, at, e := router.Salvo(r, l)
		want(t, l, results(r), copied)
		if e == api.OK {
			continue
		}
		refused++
		want(t, results(r, l), results(after, at < len(l)), router.Router{}, true)
		_, index, same := router.Run(r, []router.Order{{Frame: 4, Takes: l}})
		want(t, results(r, l), results(index, same), 0, e)
		for _, out := range r.Destinations {
			want(t, results(r, l, out), results(router.Seen(r, []router.Order{{Frame: 4, Takes: l}}, out.Name, 3)), modelOf(r).held(out.Name), api.OK)
		}
	}
	if refused < 100 {
		t.Errorf("only %d salvos", refused)
	}
}

// P5.5: no output carries two sources, and what a destination holds passes its trace.
func TestTracesOfAnyRouters(t *testing.T) {
	d := dice(7)
	for range 500 {
		r := d.playable()
		for level := range r.Levels {
			users := map[string]string{}
			for _, s := range r.Sources {
				for _, out := range must[[]string](t)(router.Users(r, level, s.Name)) {
					if users[out] != "" {
						t.Errorf("%+v: %s carries %s and %s", r, out, users[out], s.Name)
					}
					users[out] = s.Name
				}
			}
			busy := must[[]string](t)(router.Busy(r, level))
			for _, out := range r.Destinations {
				held := must[[]string](t)(router.Held(r, out.Name))[level]
				want(t, results(r, level, out), results(held), users[out.Name])
				passed := must[[]string](t)(router.Trace(r, level, out.Name))
				if held == "" {
					want(t, results(r, level, out), results(passed), []string{})
					continue
				}
				last := len(passed) - 1
				want(t, results(r, level, out), results(passed[0], passed[last]), held, out.Name)
				for i := range last {
					if !slices.Contains(r.Points, router.Point{Level: level, Output: passed[i+1], Input: passed[i]}) || i > 0 && !slices.Contains(busy, passed[i]) {
						t.Errorf("%+v: %v at %d", r, passed, level)
					}
				}
			}
		}
	}
}

// P5.5: there is a way or a cut, and never both.
func TestWayOrCut(t *testing.T) {
	d := dice(8)
	counts := [2]int{}
	for range 2000 {
		r := d.playable()
		level, source, destination := d.below(r.Levels), pick(&d, r.Sources).Name, pick(&d, r.Destinations).Name
		at := results(r, level, source, destination)
		way, none := router.Way(r, level, source, destination)
		cut, both := router.Cut(r, level, source, destination)
		if none == api.OK {
			counts[0]++
			want(t, at, results(router.CheckWay(r, level, source, destination, way), both), api.OK, api.ErrConflict)
		} else {
			counts[1]++
			want(t, at, results(none, router.CheckCut(r, level, source, destination, cut), both), api.ErrInfeasible, api.OK, api.OK)
		}
		for _, set := range modelOf(r).sets() {
			if e := router.CheckCut(r, level, source, destination, set); e == none {
				t.Errorf("%+v: the way %v and the set %v have both %d", at, way, set, e)
			} else if none == api.OK && e != api.ErrProof {
				t.Errorf("%+v: the cut %v has %d", at, set, e)
			}
			if none == api.OK {
				break
			}
		}
	}
	if counts[0] < 200 || counts[1] < 200 {
		t.Errorf("only %v", counts)
	}
}

// P5.5: a salvo that is undone, if this is not refused, leaves what was held.
func TestUndoneSalvos(t *testing.T) {
	d := dice(9)
	done := 0
	for range 2000 {
		r := d.playable()
		l := d.salvo(r)
		l = l[:1+d.below(len(l))]
		after, _, e := router.Salvo(r, l)
		if e != api.OK {
			continue
		}
		back, _, e := router.Salvo(after, must[[]router.Take](t)(router.Undone(r, l)))
		if e != api.OK {
			want(t, results(r, l), results(e), api.ErrInfeasible)
			continue
		}
		done++
		want(t, results(r, l), results(holdings(t, back)), holdings(t, r))
	}
	if done < 300 {
		t.Errorf("only %d salvos", done)
	}
}

// P5.5: a protected destination holds what it held.
func TestProtectedDestinations(t *testing.T) {
	d := dice(10)
	held := 0
	for range 1000 {
		r := free(d.playable())
		l := d.salvo(r)
		out := pick(&d, l).Destination
		r = must[router.Router](t)(router.Protected(r, out, true))
		before := holdings(t, r)[out]
		_, at, e := router.Salvo(r, l)
		want(t, results(r, l), results(l[at].Destination, e), out, api.ErrHeld)
		want(t, results(r, out), results(router.Cleared(r, out)), router.Router{}, api.ErrHeld)
		others := slices.DeleteFunc(l, func(x router.Take) bool { return x.Destination == out })
		if len(others) == 0 {
			continue
		}
		after, _, e := router.Salvo(r, others)
		if e == api.OK {
			held++
			want(t, results(r, others), results(holdings(t, after)[out]), before)
		}
	}
	if held < 50 {
		t.Errorf("only %d salvos", held)
	}
}

// P5.5: a destination that is cleared holds nothing, and a port with another name is switched as before.
func TestClearedAndRenamed(t *testing.T) {
	d := dice(11)
	for range 500 {
		r := free(d.playable())
		out := pick(&d, r.Destinations).Name
		wanted := holdings(t, r)
		wanted[out] = make([]string, r.Levels)
		after := must[router.Router](t)(router.Cleared(r, out))
		want(t, results(r, out), results(router.CheckRouter(after), holdings(t, after)), api.OK, wanted)
		old := pick(&d, modelOf(r).outputs())
		renamed := must[router.Router](t)(router.Renamed(r, old, "other"))
		want(t, results(r, old), results(router.CheckRouter(renamed)), api.OK)
		want(t, results(r, old), results(router.Renamed(renamed, "other", old)), r, api.OK)
	}
}

// P5.5: routers are parsed as they were printed.
func TestTextsComeBack(t *testing.T) {
	d := dice(12)
	for range 500 {
		r := d.router()
		text := must[string](t)(router.Print(r))
		want(t, text, results(router.Parse(text)), r, 0, api.OK)
	}
}
