package composite

import (
	"genlock/api"
	"genlock/common"
)

// Flat reports whether a line is decoded exactly by itself.
func Flat(p Parts) (bool, api.Errno) {
	if e := CheckParts(p); e != api.OK {
		return false, e
	}
	for _, luma := range cyclesOf(p.Luma) {
		if !luma.isFlat() {
			return false, api.OK
		}
	}
	return true, api.OK
}

// Bound returns by how much a part may differ that is decoded by the line itself.
func Bound(p Parts) (float32, api.Errno) {
	if e := CheckParts(p); e != api.OK {
		return 0, e
	}
	widest := 0
	for _, luma := range cyclesOf(p.Luma) {
		for _, n := range luma.opposite() {
			widest = max(widest, n, -n)
		}
	}
	return common.Sample((widest + 1) / 2), api.OK
}

// Differs returns the greatest difference of two lines' luma, and of their colour differences.
func Differs(a, b Parts) ([2]float32, api.Errno) {
	e := common.First(CheckParts(a), CheckParts(b), common.ErrorIf(a.length() != b.length(), api.ErrShape))
	if e != api.OK {
		return [2]float32{}, e
	}
	luma := difference(a.Luma, b.Luma)
	colour := max(difference(a.U, b.U), difference(a.V, b.V))
	if common.IsLarge(luma) || common.IsLarge(colour) {
		return [2]float32{}, api.ErrLarge
	}
	return [2]float32{common.Sample(luma), common.Sample(colour)}, api.OK
}

// difference returns the greatest absolute value of the differences of the integers of two lists with the same length.
func difference(a, b []float32) int {
	greatest := 0
	for i, x := range a {
		n := common.Level(x) - common.Level(b[i])
		greatest = max(greatest, n, -n)
	}
	return greatest
}
