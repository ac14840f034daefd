package code

import (
	"genlock/api"
	"genlock/common"
)

// Label is hours, minutes, seconds and frames.
type Label struct {
	Hours   int
	Minutes int
	Seconds int
	Frames  int
}

// part is a part of a label: how many values it can have, and what returns the one that it has.
type part struct {
	count int
	value func() int
}

// parts returns the parts of a label of a rate, the hours first.
func parts(r Rate, l Label) []part {
	return []part{{24, l.hours}, {60, l.minutes}, {60, l.seconds}, {r.Frames, l.frames}}
}

// CheckLabel returns the first error of a rate and a label, or OK.
func CheckLabel(r Rate, l Label) api.Errno {
	return common.First(
		CheckRate(r),
		common.FirstOf(parts(r, l), part.check),
		common.ErrorIf(isDropped(r, l), api.ErrNone),
	)
}

// Frame returns the number of a label's frame in its day.
func Frame(r Rate, l Label) (int, api.Errno) {
	if e := CheckLabel(r, l); e != api.OK {
		return 0, e
	}
	return r.frame(l), api.OK
}

// LabelOf returns the label of a frame of a day.
func LabelOf(r Rate, frame int) (Label, api.Errno) {
	day, e := Day(r)
	if e = common.First(e, common.Outside(frame, 0, day-1)); e != api.OK {
		return Label{}, e
	}
	return r.label(frame), api.OK
}

// Added returns the label so many frames later, or earlier.
func Added(r Rate, l Label, frames int) (Label, api.Errno) {
	if e := common.First(CheckLabel(r, l), common.Outside(frames, -api.MaxTime, api.MaxTime)); e != api.OK {
		return Label{}, e
	}
	return r.later(l, frames), api.OK
}

// isDropped reports whether a label is dropped.
func isDropped(r Rate, l Label) bool {
	return r.Drop && l.Minutes%10 != 0 && l.Seconds == 0 && l.Frames < dropped
}

// check returns the error of the part, or OK.
func (p part) check() api.Errno {
	return common.Outside(p.value(), 0, p.count-1)
}

func (l Label) hours() int {
	return l.Hours
}

func (l Label) minutes() int {
	return l.Minutes
}

func (l Label) seconds() int {
	return l.Seconds
}

func (l Label) frames() int {
	return l.Frames
}
