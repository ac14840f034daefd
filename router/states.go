package router

import (
	"slices"

	"genlock/api"
	"genlock/common"
)

// Held returns what a destination holds at each level.
func Held(r Router, destination string) ([]string, api.Errno) {
	if e := common.First(CheckRouter(r), r.portError(destination, destinationRole)); e != api.OK {
		return nil, e
	}
	return r.held(destination), api.OK
}

// Trace returns the ports through which a destination gets its source.
func Trace(r Router, level int, destination string) ([]string, api.Errno) {
	e := common.First(
		CheckRouter(r),
		r.levelError(level),
		r.portError(destination, destinationRole),
	)
	if e != api.OK {
		return nil, e
	}
	return r.trace(level, destination), api.OK
}

// Busy returns the ties that are busy at a level.
func Busy(r Router, level int) ([]string, api.Errno) {
	if e := common.First(CheckRouter(r), r.levelError(level)); e != api.OK {
		return nil, e
	}
	var busy []string
	for _, t := range r.Ties {
		if r.isSet(level, t.Name) {
			busy = append(busy, t.Name)
		}
	}
	return busy, api.OK
}

// Users returns the destinations that hold a source at a level.
func Users(r Router, level int, source string) ([]string, api.Errno) {
	e := common.First(
		CheckRouter(r),
		r.levelError(level),
		r.portError(source, sourceRole),
	)
	if e != api.OK {
		return nil, e
	}
	var users []string
	for _, d := range r.Destinations {
		if r.carried(level, d.Name) == source {
			users = append(users, d.Name)
		}
	}
	return users, api.OK
}

// held returns what a destination of a sound router holds at each level.
func (r Router) held(destination string) []string {
	var l []string
	for level := range r.Levels {
		l = append(l, r.carried(level, destination))
	}
	return l
}

// carried returns the source that an output of a sound router carries at a level, or the empty string.
func (r Router) carried(level int, output string) string {
	passed := r.trace(level, output)
	if len(passed) == 0 {
		return ""
	}
	return passed[0]
}

// trace returns the ports through which an output of a sound router gets its source at a level, from the source to the output, or none.
func (r Router) trace(level int, output string) []string {
	if !r.isSet(level, output) {
		return nil
	}
	var passed []string
	for at := output; at != ""; at = r.input(level, at) {
		passed = append(passed, at)
	}
	slices.Reverse(passed)
	return passed
}

// isSet reports whether an output has a point at a level.
func (r Router) isSet(level int, output string) bool {
	return r.input(level, output) != ""
}
