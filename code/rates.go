package code

import "genlock/api"

// The labels of a rate that drops numbers: how many are dropped in each minute but the tenth one, how many frames such a minute has, and how many ten minutes have.
const (
	dropped    = 2
	oneMinute  = 60*30 - dropped
	tenMinutes = 10*60*30 - 9*dropped
)

// The marks between the parts of a label in a text; dropMark stands in front of the frames if numbers are dropped.
const (
	partMark = ":"
	dropMark = ";"
)

// Rate is the frames of a second, and whether numbers are dropped.
type Rate struct {
	Frames int
	Drop   bool
}

// rateName is a rate, and what names it: a byte of a word, and in a text the mark in front of the frames of a label, and the frames of a second.
type rateName struct {
	rate   Rate
	code   byte
	mark   string
	frames string
}

// rateNames has the names of all rates.
var rateNames = [...]rateName{
	{Rate{Frames: 24}, 24, partMark, "24"},
	{Rate{Frames: 25}, 25, partMark, "25"},
	{Rate{Frames: 30}, 30, partMark, "30"},
	{Rate{Frames: 30, Drop: true}, 30 + 128, dropMark, "30"},
}

// CheckRate returns the first error of a rate, or OK.
func CheckRate(r Rate) api.Errno {
	e := api.ErrKind
	for _, n := range rateNames {
		switch {
		case n.rate == r:
			return api.OK
		case n.rate.Frames == r.Frames:
			e = api.ErrConflict
		}
	}
	return e
}

// Day returns the frames of a day.
func Day(r Rate) (int, api.Errno) {
	if e := CheckRate(r); e != api.OK {
		return 0, e
	}
	return r.day(), api.OK
}

// named returns the first name of a rate for which something holds, and whether there is one.
func named(holds func(n rateName) bool) (rateName, bool) {
	for _, n := range rateNames {
		if holds(n) {
			return n, true
		}
	}
	return rateName{}, false
}

// name returns the name of the rate.
func (r Rate) name() rateName {
	n, _ := named(func(n rateName) bool { return n.rate == r })
	return n
}

// day returns how many frames a day has: one more than those before the last label.
func (r Rate) day() int {
	return r.frame(Label{Hours: 23, Minutes: 59, Seconds: 59, Frames: r.Frames - 1}) + 1
}

// frame returns the frame of a label.
func (r Rate) frame(l Label) int {
	number := 0
	for _, p := range parts(r, l) {
		number = number*p.count + p.value()
	}
	if !r.Drop {
		return number
	}
	return number - droppedUpTo(number/(60*r.Frames))
}

// label returns the label of a frame.
func (r Rate) label(frame int) Label {
	number := frame
	if r.Drop {
		number += droppedUpTo(minuteOf(frame))
	}
	seconds := number / r.Frames
	minutes := seconds / 60
	return Label{Hours: minutes / 60, Minutes: minutes % 60, Seconds: seconds % 60, Frames: number % r.Frames}
}

// later returns the label that is later by a number of frames than another one.
func (r Rate) later(l Label, frames int) Label {
	day := r.day()
	frame := (r.frame(l) + frames) % day
	if frame < 0 {
		frame += day
	}
	return r.label(frame)
}

// droppedUpTo returns how many labels are dropped in the minutes of a day from the first one to this one.
func droppedUpTo(minute int) int {
	return dropped * (minute - minute/10)
}

// minuteOf returns the minute of a frame, if numbers are dropped. The first one of ten minutes has more frames than the others.
func minuteOf(frame int) int {
	return 10*(frame/tenMinutes) + max(frame%tenMinutes-dropped, 0)/oneMinute
}
