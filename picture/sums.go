package picture

import (
	"slices"

	"genlock/api"
)

// Sum returns the sum of two pictures.
func Sum(a, b Picture) (Picture, api.Errno) {
	e := first(
		CheckPicture(a),
		CheckPicture(b),
		errorIf(a.Width != b.Width || a.Height != b.Height, api.ErrShape),
	)
	if e != api.OK {
		return Picture{}, e
	}
	sums := levels(a)
	for i, n := range levels(b) {
		sums[i] += n
	}
	return withLevels(a, sums)
}

// Scaled returns the scaled picture.
func Scaled(p Picture, num, den int) (Picture, api.Errno) {
	e := first(CheckPicture(p), outside(num, -MaxScale, MaxScale), outside(den, 1, MaxScale))
	if e != api.OK {
		return Picture{}, e
	}
	return withLevels(p, mapped(levels(p), func(n int) int { return nearest(n*num, den) }))
}

// Energy returns the energy of a picture.
func Energy(p Picture) (int, api.Errno) {
	if e := CheckPicture(p); e != api.OK {
		return 0, e
	}
	energy := 0
	for _, n := range levels(p) {
		energy += n * n
	}
	return energy, api.OK
}

// Peak returns the peak of a picture.
func Peak(p Picture) (int, api.Errno) {
	if e := CheckPicture(p); e != api.OK {
		return 0, e
	}
	peak := 0
	for _, n := range levels(p) {
		peak = max(peak, n, -n)
	}
	return peak, api.OK
}

// Mean returns the mean of a picture.
func Mean(p Picture) (api.Ratio, api.Errno) {
	if e := CheckPicture(p); e != api.OK {
		return api.Ratio{}, e
	}
	sum := 0
	for _, n := range levels(p) {
		sum += n
	}
	den := parts * len(p.Samples)
	common := divisor(sum, den)
	return api.Ratio{Num: sum / common, Den: den / common}, api.OK
}

// levels returns the integers of the samples of a picture.
func levels(p Picture) []int {
	return mapped(p.Samples, level)
}

// withLevels returns a picture with the name and the size of p, and the samples with these integers; ErrLarge if one is not a sample's.
func withLevels(p Picture, l []int) (Picture, api.Errno) {
	if slices.ContainsFunc(l, isLarge) {
		return Picture{}, api.ErrLarge
	}
	p.Samples = mapped(l, sample)
	return p, api.OK
}

// nearest returns the integer nearest to n / den, from the middle the greater one; den is above 0.
func nearest(n, den int) int {
	doubled, by := 2*n+den, 2*den
	quotient := doubled / by
	if doubled%by < 0 { // a quotient of Go is cut off towards 0
		quotient--
	}
	return quotient
}
