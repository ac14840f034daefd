package router

import (
	"iter"
	"slices"

	"genlock/api"
	"genlock/common"
	"genlock/picture"
)

// Take is a destination, and for each level a source, or Nothing, or the empty string for a level that is left as it is.
type Take struct {
	Destination string
	Sources     []string
}

// Taken returns a router after a take.
func Taken(r Router, t Take) (Router, api.Errno) {
	next, _, e := Salvo(r, []Take{t})
	return next, e
}

// Salvo returns a router after a salvo, or the index of the take that is refused.
func Salvo(r Router, l []Take) (Router, int, api.Errno) {
	if e := common.First(CheckRouter(r), r.salvoError(l)); e != api.OK {
		return Router{}, 0, e
	}
	return r.after(l)
}

// Undone returns the salvo that undoes a salvo.
func Undone(r Router, l []Take) ([]Take, api.Errno) {
	if _, _, e := Salvo(r, l); e != api.OK {
		return nil, e
	}
	return common.Mapped(l, r.undone), api.OK
}

// Protected returns a router in which a destination is protected, or not.
func Protected(r Router, destination string, is bool) (Router, api.Errno) {
	if e := common.First(CheckRouter(r), r.portError(destination, destinationRole)); e != api.OK {
		return Router{}, e
	}
	next := r.copied()
	next.Destinations[r.destinationAt(destination)].Protected = is
	return next, api.OK
}

// Cleared returns a router in which a destination holds nothing.
func Cleared(r Router, destination string) (Router, api.Errno) {
	if e := CheckRouter(r); e != api.OK { // only then the number of levels can be counted on
		return Router{}, e
	}
	return Taken(r, Take{Destination: destination, Sources: slices.Repeat([]string{Nothing}, r.Levels)})
}

// Renamed returns a router in which a port has another name.
func Renamed(r Router, old, name string) (Router, api.Errno) {
	if e := CheckRouter(r); e != api.OK {
		return Router{}, e
	}
	known := r.ports()
	_, there := known[old]
	_, taken := known[name]
	e := common.First(
		common.ErrorIf(!there, api.ErrUnknown),
		common.ErrorIf(!picture.IsName(name), api.ErrName),
		common.ErrorIf(taken, api.ErrTwice),
	)
	if e != api.OK {
		return Router{}, e
	}
	return r.named(func(is string) string {
		if is == old {
			return name
		}
		return is
	}), api.OK
}

// salvoError returns the error of a salvo for the router, or OK.
func (r Router) salvoError(l []Take) api.Errno {
	e := common.First(
		common.ErrorIf(len(l) == 0, api.ErrEmpty),
		common.ErrorIf(len(l) > MaxTakes, api.ErrMany),
	)
	if e != api.OK {
		return e
	}
	before := map[string]bool{}
	return common.FirstOf(l, func(t Take) api.Errno {
		e := common.First(
			r.portError(t.Destination, destinationRole),
			common.ErrorIf(before[t.Destination], api.ErrTwice),
			common.ErrorIf(len(t.Sources) != r.Levels, api.ErrShape),
			common.FirstOf(t.Sources, r.wordError),
		)
		before[t.Destination] = true
		return e
	})
}

// wordError returns the error of a word of a take, or OK.
func (r Router) wordError(word string) api.Errno {
	if word == "" || word == Nothing {
		return api.OK
	}
	return r.portError(word, sourceRole)
}

// after returns the sound router after a salvo, or the index of the take that is refused, and the error.
func (r Router) after(l []Take) (Router, int, api.Errno) {
	held := slices.IndexFunc(l, func(t Take) bool {
		return r.Destinations[r.destinationAt(t.Destination)].Protected
	})
	if held >= 0 {
		return Router{}, held, api.ErrHeld
	}
	next := r.copied()
	for _, p := range r.changes(l) {
		p.Input = r.input(p.Level, p.Output)
		next = next.without([]Point{p})
	}
	for idle := next.idle(); len(idle) > 0; idle = next.idle() {
		next = next.without(idle)
	}
	for take, p := range r.changes(l) {
		if p.Input == Nothing {
			continue
		}
		ties, _, ok := next.search(p.Level, p.Input, p.Output)
		if !ok {
			return Router{}, take, api.ErrInfeasible
		}
		next = next.with(p, ties)
	}
	return next, 0, api.OK
}

// changes returns what the takes of a salvo change, with their indices: points that give the destinations at once what they are to hold, and do not hold yet, or Nothing.
func (r Router) changes(l []Take) iter.Seq2[int, Point] {
	return func(yield func(int, Point) bool) {
		for i, t := range l {
			for level, word := range t.Sources {
				p := Point{Level: level, Output: t.Destination, Input: word}
				isChange := word != "" && word != r.carried(level, t.Destination)
				if isChange && !yield(i, p) {
					return
				}
			}
		}
	}
}

// idle returns the points of the ties that are the input of none.
func (r Router) idle() []Point {
	known := r.ports()
	var idle []Point
	for _, p := range r.Points {
		if known[p.Output].role == tieRole && !r.isUsed(p.Level, p.Output) {
			idle = append(idle, p)
		}
	}
	return idle
}

// without returns the router without some points.
func (r Router) without(l []Point) Router {
	next := r.copied()
	next.Points = slices.DeleteFunc(next.Points, func(p Point) bool { return slices.Contains(l, p) })
	return next
}

// with returns the router in which a destination gets a source, as a point says, over the ties of a way: each output that has no point gets what is before it.
func (r Router) with(p Point, ties []string) Router {
	next := r.copied()
	before := p.Input
	for _, output := range append(slices.Clone(ties), p.Output) {
		if !r.isSet(p.Level, output) {
			next.Points = append(next.Points, Point{Level: p.Level, Output: output, Input: before})
		}
		before = output
	}
	slices.SortFunc(next.Points, r.ports().compare)
	return next
}

// undone returns the take that undoes one.
func (r Router) undone(t Take) Take {
	words := r.held(t.Destination)
	for level, word := range t.Sources {
		switch {
		case word == "":
			words[level] = ""
		case words[level] == "":
			words[level] = Nothing
		}
	}
	return Take{Destination: t.Destination, Sources: words}
}

// named returns the router with other names.
func (r Router) named(name func(string) string) Router {
	next := r.copied()
	for i, s := range r.Sources {
		next.Sources[i].Name = name(s.Name)
	}
	for i, d := range r.Destinations {
		next.Destinations[i].Name = name(d.Name)
	}
	for i, t := range r.Ties {
		next.Ties[i].Name = name(t.Name)
	}
	next.Points = common.Mapped(r.Points, func(p Point) Point {
		return Point{Level: p.Level, Output: name(p.Output), Input: name(p.Input)}
	})
	return next
}

// destinationAt returns the index of a destination.
func (r Router) destinationAt(name string) int {
	return slices.IndexFunc(r.Destinations, func(d Destination) bool { return d.Name == name })
}
