package composite

import (
	"genlock/api"
	"genlock/common"
)

// The steps from tap to tap: a filter uses what was before, its adjoint what comes after.
const (
	earlier = -1
	later   = 1
)

// CheckTaps returns the first error of taps, or OK.
func CheckTaps(t []int) api.Errno {
	return common.TapsError(t, MaxTaps, MaxTap)
}

// Response returns what taps do to the four quarters of a cycle.
func Response(t []int) ([4]complex128, api.Errno) {
	if e := CheckTaps(t); e != api.OK {
		return [4]complex128{}, e
	}
	var response [Quarters]complex128
	for k := range response {
		for j := range len(t) {
			power := common.Power(k * j)
			response[k] += complex(float64(t[j]*power.Re), float64(t[j]*power.Im))
		}
	}
	return response, api.OK
}

// Filtered returns a signal filtered by taps along the line.
func Filtered(l []float32, t []int) ([]float32, api.Errno) {
	return alongLine(l, t, earlier)
}

// Back returns a signal filtered by the adjoint of taps.
func Back(l []float32, t []int) ([]float32, api.Errno) {
	return alongLine(l, t, later)
}

// Combed returns a field filtered by taps from line to line.
func Combed(l [][]float32, t []int) ([][]float32, api.Errno) {
	return lineToLine(l, t, earlier)
}

// Uncombed returns a field filtered by the adjoint of taps from line to line.
func Uncombed(l [][]float32, t []int) ([][]float32, api.Errno) {
	return lineToLine(l, t, later)
}

// alongLine returns a signal filtered along the line, with a step from tap to tap.
func alongLine(l []float32, t []int, step int) ([]float32, api.Errno) {
	if e := common.First(CheckSignal(l), CheckTaps(t)); e != api.OK {
		return nil, e
	}
	sums := make([]int, len(l))
	for n := range l {
		sums[n] = common.Tapped(l, t, n, step, common.Level)
	}
	return common.Samples(sums)
}

// lineToLine returns a field filtered from line to line, with a step from tap to tap.
func lineToLine(l [][]float32, t []int, step int) ([][]float32, api.Errno) {
	if e := common.First(CheckField(l), CheckTaps(t)); e != api.OK {
		return nil, e
	}
	filtered := make([][]float32, len(l))
	for k, line := range l {
		sums := make([]int, len(line))
		for n := range line {
			sums[n] = common.Tapped(l, t, k, step, func(other []float32) int { return common.Level(other[n]) })
		}
		samples, e := common.Samples(sums)
		if e != api.OK {
			return nil, e
		}
		filtered[k] = samples
	}
	return filtered, api.OK
}
