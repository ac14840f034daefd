package tape

import (
	"genlock/api"
	"genlock/common"
	"genlock/picture"
)

// Reel is frames from a first number on, each with its check.
type Reel struct {
	Name   string
	First  int
	Checks []int
}

// CheckReel returns the first error of a reel, or OK.
func CheckReel(r Reel) api.Errno {
	return common.First(
		common.ErrorIf(!picture.IsName(r.Name), api.ErrName),
		common.Outside(r.First, 0, api.MaxTime),
		common.ErrorIf(len(r.Checks) == 0, api.ErrEmpty),
		common.ErrorIf(len(r.Checks) > MaxFrames, api.ErrMany),
		common.FirstOf(r.Checks, func(check int) api.Errno { return common.Outside(check, 0, MaxCheck) }),
		common.ErrorIf(r.end() > api.MaxTime, api.ErrLarge),
	)
}

// CheckReels returns the first error of reels, or OK.
func CheckReels(l []Reel) api.Errno {
	if len(l) > MaxReels {
		return api.ErrMany
	}
	before := map[string]bool{}
	return common.FirstOf(l, func(r Reel) api.Errno {
		e := common.First(CheckReel(r), common.ErrorIf(before[r.Name], api.ErrTwice))
		before[r.Name] = true
		return e
	})
}

// named returns reels by their names.
func named(l []Reel) map[string]Reel {
	reels := map[string]Reel{}
	for _, r := range l {
		reels[r.Name] = r
	}
	return reels
}

// end returns the number behind the last frame.
func (r Reel) end() int {
	return r.First + len(r.Checks)
}

// hasFrame reports whether the reel has a frame.
func (r Reel) hasFrame(frame int) bool {
	return frame >= r.First && frame < r.end()
}

// has reports whether a span of frames lies within the reel.
func (r Reel) has(s api.Span) bool {
	return s.From >= r.First && s.To <= r.end()
}

// check returns the check of a frame that the reel has.
func (r Reel) check(frame int) int {
	return r.Checks[frame-r.First]
}
