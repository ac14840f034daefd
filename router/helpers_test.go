package router_test

import (
	"fmt"
	"math"
	"slices"
	"strings"
	"testing"

	"genlock/api"
	"genlock/router"
)

// The tests use the exported functions alone, so that they hold for every implementation of the chapter.

// maxTime is the last frame.
const maxTime = 10000000

// results returns the results of a call as a list.
func results(l ...any) []any { return l }

// want compares the results of a call with the expected ones; nil and empty lists are equal.
func want(t *testing.T, what any, got []any, wanted ...any) {
	t.Helper()
	if g, w := shown(got), shown(wanted); g != w {
		t.Errorf("%+v: got %s, want %s", what, g, w)
	}
}

// shown returns values as Go writes them, so that a list without elements and one of an empty string differ.
func shown(l []any) string {
	return strings.ReplaceAll(fmt.Sprintf("%#v", l), "(nil)", "{}")
}

// wantError compares the error of a call, its last result, with the expected one; beside an error all other results are zero values.
func wantError(t *testing.T, what any, got []any, e api.Errno, zero ...any) {
	t.Helper()
	if e == api.OK {
		got, zero = got[len(got)-1:], nil
	}
	want(t, what, got, append(slices.Clone(zero), e)...)
}

// must returns a result that has no error.
func must[T any](t *testing.T) func(x T, e api.Errno) T {
	return func(x T, e api.Errno) T {
		t.Helper()
		if e != api.OK {
			t.Fatalf("error %d", e)
		}
		return x
	}
}

// given is an argument, and its error.
type given[T any] struct {
	v T
	e api.Errno
}

// firstError returns the first error of some, or OK.
func firstError(l ...api.Errno) api.Errno {
	for _, e := range l {
		if e != api.OK {
			return e
		}
	}
	return api.OK
}

// numbers are the least and the greatest number of a range, some outside of it, and their errors.
func numbers(low, high int, e api.Errno) []given[int] {
	return []given[int]{{low, api.OK}, {high, api.OK}, {low - 1, e}, {high + 1, e}, {math.MinInt, e}, {math.MaxInt, e}}
}

// dice are numbers that are the same in every run.
type dice uint64

func (d *dice) below(n int) int {
	*d = *d*6364136223846793005 + 1442695040888963407
	return int(uint64(*d) >> 33 % uint64(n))
}

// pick returns any element of a list, or the zero value of an empty one.
func pick[T any](d *dice, l []T) T {
	if len(l) == 0 {
		return *new(T)
	}
	return l[d.below(len(l))]
}

// words returns the words of a string, in which `.` is the empty one.
func words(s string) []string {
	l := strings.Fields(s)
	for i, word := range l {
		if word == "." {
			l[i] = ""
		}
	}
	return l
}

// points returns points, each of them a level, an output and an input.
func points(s string) []router.Point {
	var l []router.Point
	for p := range slices.Chunk(words(s), 3) {
		l = append(l, router.Point{Level: int(p[0][0] - '0'), Output: p[1], Input: p[2]})
	}
	return l
}

// take returns a take of a destination.
func take(s string) router.Take {
	l := words(s)
	return router.Take{Destination: l[0], Sources: l[1:]}
}

// salvo returns a salvo of takes.
func salvo(takes ...string) []router.Take {
	var l []router.Take
	for _, s := range takes {
		l = append(l, take(s))
	}
	return l
}

// order returns an order at a frame.
func order(frame int, takes ...string) router.Order {
	return router.Order{Frame: frame, Takes: salvo(takes...)}
}

// routerR is that of the chapter's examples, with points.
func routerR(s string) router.Router {
	return router.Router{
		Levels:       2,
		Matrices:     2,
		Sources:      []router.Source{{Name: "cam", Matrix: 0}, {Name: "vtr", Matrix: 1}},
		Destinations: []router.Destination{{Name: "mon", Matrix: 0}, {Name: "air", Matrix: 1}, {Name: "rec", Matrix: 1}},
		Ties:         []router.Tie{{Name: "t", From: 0, To: 1}, {Name: "u", From: 0, To: 1}},
		Points:       points(s),
	}
}

// The points of R after the examples 1, 2 and 4.
const (
	points1 = "0 air t 0 t cam 1 air t 1 t cam"
	points2 = "0 air t 0 rec t 0 t cam 1 air t 1 t cam"
	points4 = "0 air vtr 0 rec t 0 t cam 1 air vtr"
)

// changed returns R with points, and a change.
func changed(s string, change func(r *router.Router)) router.Router {
	r := routerR(s)
	change(&r)
	return r
}

// hold returns R with points, in which a destination is protected.
func hold(s string, destinations ...string) router.Router {
	return changed(s, func(r *router.Router) {
		for i, d := range r.Destinations {
			r.Destinations[i].Protected = slices.Contains(destinations, d.Name)
		}
	})
}

// place is an output at a level.
type place struct {
	level  int
	output string
}

// model is a router whose points are a map, by which the tests find what is expected.
type model struct {
	r      router.Router
	inputs map[place]string
}

// modelOf returns the model of a router that has no errors.
func modelOf(r router.Router) model {
	m := model{r: r, inputs: map[place]string{}}
	for _, p := range r.Points {
		m.inputs[place{p.Level, p.Output}] = p.Input
	}
	return m
}

// outputs returns the names of the outputs in their order.
func (m model) outputs() []string {
	var l []string
	for _, d := range m.r.Destinations {
		l = append(l, d.Name)
	}
	for _, t := range m.r.Ties {
		l = append(l, t.Name)
	}
	return l
}

// router returns the model's router.
func (m model) router() router.Router {
	r := m.r
	r.Points = nil
	for level := range r.Levels {
		for _, output := range m.outputs() {
			if input := m.inputs[place{level, output}]; input != "" {
				r.Points = append(r.Points, router.Point{Level: level, Output: output, Input: input})
			}
		}
	}
	return r
}

// carries returns the source that a port carries, or the empty string.
func (m model) carries(level int, port string) string {
	if slices.ContainsFunc(m.r.Sources, func(s router.Source) bool { return s.Name == port }) {
		return port
	}
	if input := m.inputs[place{level, port}]; input != "" {
		return m.carries(level, input)
	}
	return ""
}

// held returns what a destination holds at each level.
func (m model) held(destination string) []string {
	var l []string
	for level := range m.r.Levels {
		l = append(l, m.carries(level, destination))
	}
	return l
}

// sourceMatrix, destinationMatrix and tie find ports.
func (m model) sourceMatrix(name string) int {
	return m.r.Sources[slices.IndexFunc(m.r.Sources, func(s router.Source) bool { return s.Name == name })].Matrix
}

func (m model) destinationMatrix(name string) int {
	return m.r.Destinations[slices.IndexFunc(m.r.Destinations, func(d router.Destination) bool { return d.Name == name })].Matrix
}

func (m model) tie(name string) router.Tie {
	return m.r.Ties[m.tieAt(name)]
}

func (m model) tieAt(name string) int {
	return slices.IndexFunc(m.r.Ties, func(t router.Tie) bool { return t.Name == name })
}

// isWay reports whether a list of different ties is a way.
func (m model) isWay(level int, source, destination string, way []string) bool {
	if len(way) == 0 {
		return m.sourceMatrix(source) == m.destinationMatrix(destination)
	}
	for i, name := range way {
		busy := m.inputs[place{level, name}] != ""
		from := m.tie(name).From
		switch {
		case i == 0 && busy && m.carries(level, name) == source:
		case i == 0 && !busy && from == m.sourceMatrix(source):
		case i > 0 && !busy && from == m.tie(way[i-1]).To:
		default:
			return false
		}
	}
	return m.tie(way[len(way)-1]).To == m.destinationMatrix(destination)
}

// lists returns all lists of different ties.
func (m model) lists() [][]string {
	all := [][]string{nil}
	for i := 0; i < len(all); i++ {
		for _, t := range m.r.Ties {
			if !slices.Contains(all[i], t.Name) {
				all = append(all, append(slices.Clone(all[i]), t.Name))
			}
		}
	}
	return all
}

// rank returns the numbers by which ways are compared.
func (m model) rank(level int, way []string) []int {
	l := []int{0, len(way)}
	for _, name := range way {
		if m.inputs[place{level, name}] == "" {
			l[0]++
		}
		l = append(l, m.tieAt(name))
	}
	return l
}

// least returns the least way, and whether there is one.
func (m model) least(level int, source, destination string) ([]string, bool) {
	var least []string
	found := false
	for _, way := range m.lists() {
		if m.isWay(level, source, destination, way) && (!found || slices.Compare(m.rank(level, way), m.rank(level, least)) < 0) {
			least, found = way, true
		}
	}
	return least, found
}

// isCut reports whether a set of matrices is a cut.
func (m model) isCut(level int, source, destination string, cut []int) bool {
	if !slices.Contains(cut, m.sourceMatrix(source)) || slices.Contains(cut, m.destinationMatrix(destination)) {
		return false
	}
	for _, t := range m.r.Ties {
		busy := m.inputs[place{level, t.Name}] != ""
		if busy && m.carries(level, t.Name) == source && !slices.Contains(cut, t.To) {
			return false
		}
		if !busy && slices.Contains(cut, t.From) && !slices.Contains(cut, t.To) {
			return false
		}
	}
	return true
}

// sets returns all sets of matrices, ascending.
func (m model) sets() [][]int {
	all := [][]int{nil}
	for matrix := range m.r.Matrices {
		for _, set := range all {
			all = append(all, append(slices.Clone(set), matrix))
		}
	}
	return all
}

// leastCut returns the matrices that all cuts have, and whether there is a cut.
func (m model) leastCut(level int, source, destination string) ([]int, bool) {
	var cut []int
	found := false
	for _, set := range m.sets() {
		if !m.isCut(level, source, destination, set) {
			continue
		}
		if !found {
			cut, found = set, true
		}
		cut = slices.DeleteFunc(slices.Clone(cut), func(matrix int) bool { return !slices.Contains(set, matrix) })
	}
	return cut, found
}

// after returns what Salvo is to return for a salvo without an error.
func (m model) after(l []router.Take) (router.Router, int, api.Errno) {
	for i, t := range l {
		if slices.Contains(m.r.Destinations, router.Destination{Name: t.Destination, Matrix: m.destinationMatrix(t.Destination), Protected: true}) {
			return router.Router{}, i, api.ErrHeld
		}
	}
	next := modelOf(m.r)
	for _, t := range l {
		for level, word := range t.Sources {
			if word != "" && word != m.carries(level, t.Destination) {
				delete(next.inputs, place{level, t.Destination})
			}
		}
	}
	for next.drop() {
	}
	for i, t := range l {
		for level, word := range t.Sources {
			if word == "" || word == "-" || word == m.carries(level, t.Destination) {
				continue
			}
			way, ok := next.least(level, word, t.Destination)
			if !ok {
				return router.Router{}, i, api.ErrInfeasible
			}
			for _, output := range append(slices.Clone(way), t.Destination) {
				if next.inputs[place{level, output}] == "" {
					next.inputs[place{level, output}] = word
				}
				word = output
			}
		}
	}
	return next.router(), 0, api.OK
}

// drop takes the point of a tie away that is the input of none, and reports whether there was one.
func (m model) drop() bool {
	for level := range m.r.Levels {
		for _, t := range m.r.Ties {
			at := place{level, t.Name}
			if m.inputs[at] != "" && !m.isUsed(at) {
				delete(m.inputs, at)
				return true
			}
		}
	}
	return false
}

// isUsed reports whether a tie is the input of a point at a level.
func (m model) isUsed(at place) bool {
	for output, input := range m.inputs {
		if output.level == at.level && input == at.output {
			return true
		}
	}
	return false
}

// router returns a router without errors, whose ties may carry sources by ways that are not the least ones.
func (d *dice) router() router.Router {
	r := router.Router{Levels: 1 + d.below(3), Matrices: 1 + d.below(4)}
	for i := range d.below(9) {
		r.Sources = append(r.Sources, router.Source{Name: fmt.Sprint("s", i), Matrix: d.below(r.Matrices)})
	}
	for i := range d.below(9) {
		r.Destinations = append(r.Destinations, router.Destination{Name: fmt.Sprint("d", i), Matrix: d.below(r.Matrices), Protected: d.below(16) == 0})
	}
	for i := range d.below(7) {
		if r.Matrices > 1 {
			from := d.below(r.Matrices)
			r.Ties = append(r.Ties, router.Tie{Name: fmt.Sprint("t", i), From: from, To: (from + 1 + d.below(r.Matrices-1)) % r.Matrices})
		}
	}
	m := modelOf(r)
	for level := range r.Levels {
		d.feed(m, level)
	}
	return m.router()
}

// feed gives some outputs inputs at a level, first the ties in any order, so that no tie gets what it carries itself.
func (d *dice) feed(m model, level int) {
	var inputs [4][]string
	for _, s := range m.r.Sources {
		inputs[s.Matrix] = append(inputs[s.Matrix], s.Name)
	}
	for range 2 * len(m.r.Ties) {
		t := pick(d, m.r.Ties)
		input := pick(d, inputs[t.From])
		if m.inputs[place{level, t.Name}] == "" && input != "" {
			m.inputs[place{level, t.Name}] = input
			inputs[t.To] = append(inputs[t.To], t.Name)
		}
	}
	for _, out := range m.r.Destinations {
		if input := pick(d, inputs[out.Matrix]); d.below(2) == 0 && input != "" {
			m.inputs[place{level, out.Name}] = input
		}
	}
	for m.drop() {
	}
}

// routers are routers with their errors.
func routers() []given[router.Router] {
	l := []given[router.Router]{
		{routerR(""), api.OK}, {routerR(points1), api.OK}, {routerR(points2), api.OK}, {routerR(points4), api.OK},
		{hold(points2, "mon", "rec"), api.OK},
		{router.Router{}, api.ErrRange},
		{router.Router{Levels: 1, Matrices: 1}, api.OK},
		{router.Router{Levels: 3, Matrices: 4}, api.OK},
	}
	return slices.Concat(l, wrongSizes(), wrongPorts(), wrongPoints())
}

// wrongSizes are routers with all numbers of levels, matrices and ports.
func wrongSizes() []given[router.Router] {
	var l []given[router.Router]
	for _, n := range numbers(1, 3, api.ErrRange) {
		l = append(l, given[router.Router]{router.Router{Levels: n.v, Matrices: 1}, n.e})
		l = append(l, given[router.Router]{router.Router{Levels: n.v, Matrices: 1, Sources: make([]router.Source, 9)}, firstError(n.e, api.ErrMany)})
	}
	for _, n := range numbers(1, 4, api.ErrRange) {
		l = append(l, given[router.Router]{router.Router{Levels: 1, Matrices: n.v}, n.e})
		l = append(l, given[router.Router]{router.Router{Levels: 3, Matrices: n.v, Ties: make([]router.Tie, 7)}, firstError(n.e, api.ErrMany)})
	}
	full := full()
	wrong := func(e api.Errno, change func(r *router.Router)) {
		r := full
		r.Sources, r.Destinations, r.Ties = slices.Clone(r.Sources), slices.Clone(r.Destinations), slices.Clone(r.Ties)
		change(&r)
		l = append(l, given[router.Router]{r, e})
	}
	wrong(api.OK, func(r *router.Router) {})
	wrong(api.ErrMany, func(r *router.Router) { r.Sources = append(r.Sources, router.Source{Name: "more"}) })
	wrong(api.ErrMany, func(r *router.Router) {
		r.Destinations = append(r.Destinations, router.Destination{Name: "more"})
	})
	wrong(api.ErrMany, func(r *router.Router) { r.Ties = append(r.Ties, router.Tie{Name: "more", To: 1}) })
	wrong(api.ErrMany, func(r *router.Router) { r.Sources[0].Name, r.Sources = "", append(r.Sources, router.Source{}) })
	wrong(api.ErrName, func(r *router.Router) { r.Sources[7].Name, r.Destinations = "", make([]router.Destination, 9) })
	wrong(api.ErrUnknown, func(r *router.Router) { r.Destinations[7].Matrix, r.Ties = 4, make([]router.Tie, 7) })
	wrong(api.ErrMany, func(r *router.Router) { r.Destinations[0].Matrix, r.Destinations = 4, make([]router.Destination, 9) })
	wrong(api.ErrMany, func(r *router.Router) { r.Ties, r.Points = make([]router.Tie, 7), make([]router.Point, 1) })
	return l
}

// full returns a router with as many of all as there may be, and no points.
func full() router.Router {
	r := router.Router{Levels: 3, Matrices: 4}
	for i := range 8 {
		r.Sources = append(r.Sources, router.Source{Name: fmt.Sprint("s", i), Matrix: i % 4})
		r.Destinations = append(r.Destinations, router.Destination{Name: fmt.Sprint("d", i), Matrix: 3 - i%4, Protected: i > 3})
	}
	for i := range 6 {
		r.Ties = append(r.Ties, router.Tie{Name: fmt.Sprint("t", i), From: i % 4, To: (i + 1 + i/4) % 4})
	}
	return r
}

// wrongPorts are routers with ports of all kinds.
func wrongPorts() []given[router.Router] {
	var l []given[router.Router]
	add := func(e api.Errno, change func(r *router.Router)) {
		l = append(l, given[router.Router]{changed("", change), e})
	}
	long := strings.Repeat("x", 24)
	for _, name := range []given[string]{{"x", api.OK}, {"A_9", api.OK}, {long, api.OK}, {long + "x", api.ErrName}, {"", api.ErrName}, {"-", api.ErrName}, {"9", api.ErrName}, {"a b", api.ErrName}, {"a\n", api.ErrName}, {"\xff", api.ErrName}, {"cam", api.ErrTwice}, {"Cam", api.OK}} {
		add(name.e, func(r *router.Router) { r.Sources[1].Name = name.v })
		add(name.e, func(r *router.Router) { r.Destinations[0].Name = name.v })
		add(name.e, func(r *router.Router) { r.Destinations[2].Name = name.v })
		add(name.e, func(r *router.Router) { r.Ties[1].Name = name.v })
		add(firstError(name.e, api.ErrUnknown), func(r *router.Router) { r.Ties[1] = router.Tie{Name: name.v, From: 2} })
		add(firstError(name.e, api.ErrUnknown), func(r *router.Router) { r.Sources[1] = router.Source{Name: name.v, Matrix: -1} })
	}
	for _, name := range []string{"cam", "vtr", "mon", "air", "rec", "t"} {
		add(api.ErrTwice, func(r *router.Router) { r.Ties[1] = router.Tie{Name: name, From: 3, To: 3} })
	}
	add(api.ErrTwice, func(r *router.Router) { r.Destinations[2] = router.Destination{Name: "mon", Matrix: 2} })
	add(api.ErrTwice, func(r *router.Router) { r.Destinations[0] = router.Destination{Name: "vtr", Matrix: 2} })
	for _, n := range numbers(0, 1, api.ErrUnknown) {
		add(n.e, func(r *router.Router) { r.Sources[0].Matrix = n.v })
		add(n.e, func(r *router.Router) { r.Sources[1].Matrix = n.v })
		add(n.e, func(r *router.Router) { r.Destinations[1].Matrix = n.v })
		for _, m := range numbers(0, 1, api.ErrUnknown) {
			e := firstError(n.e, m.e)
			if n.v == m.v {
				e = firstError(e, api.ErrConflict)
			}
			add(e, func(r *router.Router) { r.Ties[0].From, r.Ties[0].To = n.v, m.v })
		}
	}
	add(api.ErrConflict, func(r *router.Router) { r.Ties[0].To, r.Ties[1].Name = 0, "" })
	add(api.ErrName, func(r *router.Router) { r.Ties[1].Name, r.Points = "", make([]router.Point, 1) })
	return l
}

// wrongPoints are routers with points of all kinds.
func wrongPoints() []given[router.Router] {
	var l []given[router.Router]
	for _, x := range []struct {
		points string
		e      api.Errno
	}{
		{"0 mon cam", api.OK}, {"1 rec vtr", api.OK}, {"0 mon cam 0 air vtr 0 rec vtr 1 mon cam 1 air vtr 1 rec vtr", api.OK},
		{"0 air u 0 rec t 0 t cam 0 u cam", api.OK}, {"1 air t 1 t cam", api.OK},
		{"2 nobody nothing", api.ErrRange}, {"0 mon cam 2 mon cam", api.ErrRange},
		{"0 nobody nothing", api.ErrUnknown}, {"0 cam cam", api.ErrUnknown}, {"0 vtr nothing", api.ErrUnknown}, {"0 . cam", api.ErrUnknown},
		{"0 mon nothing", api.ErrUnknown}, {"0 mon mon", api.ErrUnknown}, {"0 air rec", api.ErrUnknown}, {"0 mon .", api.ErrUnknown}, {"0 t air", api.ErrUnknown},
		{"0 mon vtr", api.ErrConflict}, {"0 mon t", api.ErrConflict}, {"0 air cam", api.ErrConflict}, {"0 t vtr", api.ErrConflict}, {"0 t t", api.ErrConflict}, {"0 u t", api.ErrConflict},
		{"0 mon cam 0 mon cam", api.ErrOrder}, {"0 rec vtr 0 air vtr", api.ErrOrder}, {"1 mon cam 0 mon cam", api.ErrOrder}, {"0 t cam 0 air t", api.ErrOrder}, {"0 air t 0 u cam 0 t cam", api.ErrOrder},
		{"1 air vtr 0 mon vtr", api.ErrConflict}, {"0 rec vtr 0 air vtr 0 nobody cam", api.ErrOrder}, {"0 rec vtr 0 rec t 0 rec vtr", api.ErrOrder},
		{"0 t cam", api.ErrOpen}, {"0 air t", api.ErrOpen}, {"0 air t 0 u cam", api.ErrOpen}, {"0 air t 1 t cam", api.ErrOpen}, {"0 air t 0 t cam 1 rec u", api.ErrOpen}, {"0 air t 0 t cam 1 u cam", api.ErrOpen},
		{"0 air t 2 t cam", api.ErrRange}, {"0 t cam 0 nobody t", api.ErrUnknown},
	} {
		l = append(l, given[router.Router]{routerR(x.points), x.e})
	}
	level := func(n int) given[router.Router] {
		return given[router.Router]{changed("0 mon cam", func(r *router.Router) { r.Points[0].Level = n }), api.ErrRange}
	}
	l = append(l, level(-1), level(2), level(math.MinInt), level(math.MaxInt))
	l = append(l, given[router.Router]{changed("", func(r *router.Router) { r.Points = make([]router.Point, 10000) }), api.ErrUnknown})
	return append(l, rings()...)
}

// ring returns a router with three matrices, each of which has a source a to c and a destination x to z, and ties around and across, with points.
func ring(s string) router.Router {
	return router.Router{
		Levels:       2,
		Matrices:     3,
		Sources:      []router.Source{{Name: "a", Matrix: 0}, {Name: "b", Matrix: 1}, {Name: "c", Matrix: 2}},
		Destinations: []router.Destination{{Name: "x", Matrix: 0}, {Name: "y", Matrix: 1}, {Name: "z", Matrix: 2}},
		Ties:         []router.Tie{{Name: "p", From: 0, To: 1}, {Name: "q", From: 1, To: 2}, {Name: "r", From: 2, To: 0}, {Name: "back", From: 1, To: 0}, {Name: "over", From: 0, To: 2}},
		Points:       points(s),
	}
}

// rings are routers in which ties get what other ties carry.
func rings() []given[router.Router] {
	var l []given[router.Router]
	for _, x := range []struct {
		points string
		e      api.Errno
	}{
		{"", api.OK}, {"0 x r 0 p a 0 q p 0 r q", api.OK}, {"0 x r 0 y p 0 p r 0 q b 0 r q", api.OK},
		{"0 p back 0 back p", api.ErrCycle}, {"1 p back 1 back p", api.ErrCycle}, {"0 p r 0 q p 0 r q", api.ErrCycle}, {"0 x r 0 p r 0 q p 0 r q", api.ErrCycle},
		{"0 p back 0 back b 0 over back", api.ErrOpen}, {"0 x back 0 z over 0 p back 0 back p 0 over back", api.ErrCycle}, {"0 x back 0 z q 0 p back 0 q p 0 back p", api.ErrCycle},
		{"0 q b 1 p back 1 back p", api.ErrCycle}, {"0 p r 0 q p", api.ErrOpen}, {"0 p r 0 q p 1 r q", api.ErrOpen}, {"0 p back 1 back p", api.ErrOpen},
		{"0 p back 0 back p 0 over a", api.ErrCycle}, {"0 y p 0 p r 1 q p", api.ErrOpen}, {"0 x a 0 p r 0 q p 0 r q 1 x b", api.ErrConflict},
	} {
		l = append(l, given[router.Router]{ring(x.points), x.e})
	}
	return l
}

// names are names of ports of R, and some that are none.
func names() []string {
	return []string{"cam", "vtr", "mon", "air", "rec", "t", "nobody", "", "-", "Air"}
}

// isSource, isDestination and isTie return OK if a router has such a port with a name, otherwise ErrUnknown.
func isSource(r router.Router, name string) api.Errno {
	return known(slices.ContainsFunc(r.Sources, func(s router.Source) bool { return s.Name == name }))
}

func isDestination(r router.Router, name string) api.Errno {
	return known(slices.ContainsFunc(r.Destinations, func(d router.Destination) bool { return d.Name == name }))
}

func isTie(r router.Router, name string) api.Errno {
	return known(slices.ContainsFunc(r.Ties, func(t router.Tie) bool { return t.Name == name }))
}

func known(is bool) api.Errno {
	if is {
		return api.OK
	}
	return api.ErrUnknown
}

// anyName returns any name of a router's ports, or one that is none.
func (d *dice) anyName(r router.Router) string {
	l := []string{"", "-", "nobody"}
	for _, s := range r.Sources {
		l = append(l, s.Name)
	}
	return pick(d, append(l, modelOf(r).outputs()...))
}

// salvo returns a salvo of a router that has a destination.
func (d *dice) salvo(r router.Router) []router.Take {
	rest := slices.Clone(r.Destinations)
	var l []router.Take
	for range 1 + d.below(len(rest)) {
		i := d.below(len(rest))
		t := router.Take{Destination: rest[i].Name}
		for range r.Levels {
			word := pick(d, r.Sources).Name
			switch d.below(6) {
			case 0:
				word = ""
			case 1:
				word = "-"
			}
			t.Sources = append(t.Sources, word)
		}
		l = append(l, t)
		rest = slices.Delete(rest, i, i+1)
	}
	return l
}

// free returns a router in which no destination is protected.
func free(r router.Router) router.Router {
	r.Destinations = slices.Clone(r.Destinations)
	for i := range r.Destinations {
		r.Destinations[i].Protected = false
	}
	return r
}
