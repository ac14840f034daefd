package picture

import (
	"genlock/api"
	"genlock/common"
)

// Sum returns the sum of two pictures.
func Sum(a, b Picture) (Picture, api.Errno) {
	e := common.First(
		CheckPicture(a),
		CheckPicture(b),
		common.ErrorIf(a.Width != b.Width || a.Height != b.Height, api.ErrShape),
	)
	if e != api.OK {
		return Picture{}, e
	}
	sums := common.Levels(a.Samples)
	for i, n := range common.Levels(b.Samples) {
		sums[i] += n
	}
	return withLevels(a, sums)
}

// Scaled returns the scaled picture.
func Scaled(p Picture, num, den int) (Picture, api.Errno) {
	e := common.First(CheckPicture(p), common.Outside(num, -MaxScale, MaxScale), common.Outside(den, 1, MaxScale))
	if e != api.OK {
		return Picture{}, e
	}
	return withLevels(p, common.Mapped(common.Levels(p.Samples), func(n int) int { return common.Nearest(n*num, den) }))
}

// Energy returns the energy of a picture.
func Energy(p Picture) (int, api.Errno) {
	if e := CheckPicture(p); e != api.OK {
		return 0, e
	}
	energy := 0
	for _, n := range common.Levels(p.Samples) {
		energy += n * n
	}
	return energy, api.OK
}

// Peak returns the peak of a picture.
func Peak(p Picture) (int, api.Errno) {
	if e := CheckPicture(p); e != api.OK {
		return 0, e
	}
	peak := 0
	for _, n := range common.Levels(p.Samples) {
		peak = max(peak, n, -n)
	}
	return peak, api.OK
}

// Mean returns the mean of a picture.
func Mean(p Picture) (api.Ratio, api.Errno) {
	if e := CheckPicture(p); e != api.OK {
		return api.Ratio{}, e
	}
	sum := 0
	for _, n := range common.Levels(p.Samples) {
		sum += n
	}
	return common.Ratio(sum, common.Parts*len(p.Samples)), api.OK
}

// withLevels returns a picture with the name and the size of p, and the samples with these integers; ErrLarge if one is not a sample's.
func withLevels(p Picture, l []int) (Picture, api.Errno) {
	samples, e := common.Samples(l)
	if e != api.OK {
		return Picture{}, e
	}
	p.Samples = samples
	return p, api.OK
}
