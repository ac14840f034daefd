package code

import (
	"math/bits"
	"slices"

	"genlock/api"
	"genlock/common"
)

// found is a stamp, and the index at which it is found: that of its word in a stream, or its own one in a list.
type found struct {
	Stamp
	at int
}

// Reversed returns a stream whose bits are in the opposite order.
func Reversed(s []byte) ([]byte, api.Errno) {
	if e := streamError(s); e != api.OK {
		return nil, e
	}
	reversed := common.Mapped(s, bits.Reverse8)
	slices.Reverse(reversed)
	return reversed, api.OK
}

// Found returns the stamps of a stream, and the indices at which their words begin.
func Found(s []byte) ([]Stamp, []int, api.Errno) {
	if e := streamError(s); e != api.OK {
		return nil, nil, e
	}
	var l []found
	for at, stamp := range common.Search(s, Size, stampOf) {
		l = append(l, found{stamp, at})
	}
	stamps := common.Mapped(l, func(f found) Stamp { return f.Stamp })
	indices := common.Mapped(l, func(f found) int { return f.at })
	return stamps, indices, api.OK
}

// Jumps returns the indices of stamps that do not follow the one before them.
func Jumps(l []Stamp) ([]int, api.Errno) {
	if e := common.First(common.ErrorIf(len(l) > api.MaxList, api.ErrMany), common.FirstOf(l, CheckStamp)); e != api.OK {
		return nil, e
	}
	return common.Indices(l, func(at int, s Stamp) bool {
		return found{s, at}.jumps(l)
	}), api.OK
}

// stampOf returns the stamp whose word these bytes are, and whether they are one.
func stampOf(s []byte) (Stamp, bool) {
	stamp, e := Read([Size]byte(s))
	return stamp, e == api.OK
}

// jumps reports whether a stamp of a list jumps there.
func (f found) jumps(l []Stamp) bool {
	if f.at == 0 {
		return false
	}
	before := l[f.at-1]
	return f.Rate != before.Rate || f.Label != before.Rate.later(before.Label, 1)
}
