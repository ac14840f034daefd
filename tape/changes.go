package tape

import (
	"slices"

	"genlock/api"
	"genlock/common"
)

// shift tells what a number makes later: in an edit itself, and in the edit before it (nothing if it is nil).
type shift struct {
	itself func(e *Edit, by int)
	before func(e *Edit, by int)
}

// Trimmed returns a list in which an edit ends later.
func Trimmed(reels []Reel, l []Edit, edit, by int) ([]Edit, api.Errno) {
	return shifted(reels, l, edit, by, shift{itself: (*Edit).moveOut})
}

// Rolled returns a list in which the cut before an edit is later.
func Rolled(reels []Reel, l []Edit, edit, by int) ([]Edit, api.Errno) {
	return shifted(reels, l, edit, by, shift{itself: (*Edit).moveIn, before: (*Edit).moveOut})
}

// Slipped returns a list in which an edit shows later frames.
func Slipped(reels []Reel, l []Edit, edit, by int) ([]Edit, api.Errno) {
	return shifted(reels, l, edit, by, shift{itself: (*Edit).move})
}

// Joined returns a list that is followed by another one.
func Joined(reels []Reel, a, b []Edit) ([]Edit, api.Errno) {
	if e := common.First(CheckEdits(reels, a), CheckEdits(reels, b)); e != api.OK {
		return nil, e
	}
	return checked(reels, slices.Concat(a, b))
}

// Parted returns the lists before and after a frame.
func Parted(reels []Reel, l []Edit, at int) ([]Edit, []Edit, api.Errno) {
	places, length := place(l)
	e := common.First(
		CheckEdits(reels, l),
		common.Outside(at, 0, length),
		common.ErrorIf(slices.ContainsFunc(places, func(p placed) bool { return p.isBound(at) }), api.ErrState),
	)
	if e != api.OK {
		return nil, nil, e
	}
	var first, second []Edit
	for _, p := range places {
		if p.seen.From < at {
			first = append(first, p.upTo(at))
		}
		if p.seen.To > at {
			second = append(second, p.from(at))
		}
	}
	if e := common.First(CheckEdits(reels, first), CheckEdits(reels, second)); e != api.OK {
		return nil, nil, e
	}
	return first, second, api.OK
}

// shifted returns a list in which something of an edit is later by a number.
func shifted(reels []Reel, l []Edit, edit, by int, s shift) ([]Edit, api.Errno) {
	e := common.First(
		CheckEdits(reels, l),
		common.ErrorIf(edit < 0 || edit >= len(l), api.ErrUnknown),
		common.Outside(by, -api.MaxTime, api.MaxTime),
		common.ErrorIf(s.before != nil && edit == 0, api.ErrRule),
	)
	if e != api.OK {
		return nil, e
	}
	changed := make([]Edit, len(l))
	copy(changed, l)
	s.itself(&changed[edit], by)
	if s.before != nil {
		s.before(&changed[edit-1], by)
	}
	return checked(reels, changed)
}

// checked returns a list, or its error.
func checked(reels []Reel, l []Edit) ([]Edit, api.Errno) {
	if e := CheckEdits(reels, l); e != api.OK {
		return nil, e
	}
	return l, api.OK
}

// moveIn makes the beginning of an edit later.
func (e *Edit) moveIn(by int) {
	e.In += by
}

// moveOut makes the end of an edit later.
func (e *Edit) moveOut(by int) {
	e.Out += by
}

// move makes the beginning and the end of an edit later.
func (e *Edit) move(by int) {
	e.moveIn(by)
	e.moveOut(by)
}

// isBound reports whether an edit binds what is before a frame to what is from there on: by its fade, or because it begins on one side, and its sound on the other.
func (p placed) isBound(at int) bool {
	begun := p.begin() < at
	return begun && at < p.begin()+p.Fade || begun != (p.heard.From < at)
}

// upTo returns an edit that begins before a frame as far as it is before this frame.
func (p placed) upTo(at int) Edit {
	e := p.Edit
	e.Out = min(e.Out, p.source(at))
	return e
}

// from returns an edit that ends after a frame as far as it is from this frame on.
func (p placed) from(at int) Edit {
	e := p.Edit
	if p.begin() < at {
		e.In, e.Fade, e.Sound = p.source(at), 0, 0
	}
	return e
}
