package mixer

import (
	"genlock/api"
	"genlock/common"
)

// The shapes of wipes.
const (
	half    = "half"
	box     = "box"
	diamond = "diamond"
)

// shapes has all shapes of wipes.
var shapes = [3]string{half, box, diamond}

// Wipe is a shape with its numbers, a threshold and a softness.
type Wipe struct {
	Shape string
	A     int
	B     int
	At    int
	Soft  int
}

// Wiped returns the shares of a wipe on a picture of a width and a height.
func Wiped(w Wipe, width, height int) ([]int, api.Errno) {
	if e := common.First(w.check(), sideError(width), sideError(height)); e != api.OK {
		return nil, e
	}
	return w.key(whole(width, height)), api.OK
}

// Border returns the border of a wipe.
func Border(w Wipe, by, width, height int) ([]int, api.Errno) {
	e := common.First(
		w.check(),
		common.Outside(by, 0, MaxAt),
		sideError(width),
		sideError(height),
		common.ErrorIf(w.At+by > MaxAt, api.ErrLarge),
	)
	if e != api.OK {
		return nil, e
	}
	inner, outer := w, w
	outer.At += by
	in := whole(width, height)
	return common.Paired(outer.key(in), inner.key(in), func(x, y int) int { return x - y }), api.OK
}

// check returns the error of the wipe, or OK.
func (w Wipe) check() api.Errno {
	return common.First(
		common.ErrorIf(!isShape(w.Shape), api.ErrKind),
		common.Outside(w.A, -MaxStep, MaxStep),
		common.Outside(w.B, -MaxStep, MaxStep),
		common.Outside(w.At, -MaxAt, MaxAt),
		common.Outside(w.Soft, 0, MaxAt),
	)
}

// key returns the shares of the wipe in a tile.
func (w Wipe) key(in tile) []int {
	return in.each(w.share)
}

// share returns the share of the wipe at a column and a row.
func (w Wipe) share(x, y int) int {
	value := w.value(x, y)
	switch {
	case value <= w.At-w.Soft:
		return Full
	case value > w.At+w.Soft:
		return 0
	default:
		return common.Nearest(Full*(w.At+w.Soft-value), 2*w.Soft)
	}
}

// value returns the value of the wipe at a column and a row.
func (w Wipe) value(x, y int) int {
	u, v := distance(2*x, w.A), distance(2*y, w.B)
	switch w.Shape {
	case box:
		return max(u, v)
	case diamond:
		return u + v
	default:
		return w.A*x + w.B*y
	}
}

// isShape reports whether a word is a shape.
func isShape(word string) bool {
	for _, shape := range shapes {
		if shape == word {
			return true
		}
	}
	return false
}

// sideError returns the error of a width or a height, or OK.
func sideError(n int) api.Errno {
	return common.Outside(n, 1, api.MaxSide)
}
