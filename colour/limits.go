package colour

import (
	"iter"
	"slices"

	"genlock/api"
	"genlock/common"
	"genlock/picture"
	"genlock/raster"
)

// Plane is a limit of colours.
type Plane struct {
	Normal [3]int
	Most   int
}

// Violation is a place, and the first plane that does not permit its colour.
type Violation struct {
	Place int
	Plane int
}

// Legal reports whether a colour is legal.
func Legal(g []Plane, colour [3]int) (bool, api.Errno) {
	if e := common.First(gamutError(g), colourError(colour)); e != api.OK {
		return false, e
	}
	return !slices.ContainsFunc(g, func(plane Plane) bool { return !plane.permits(colour) }), api.OK
}

// Violations returns the violations of three pictures.
func Violations(g []Plane, p [3]picture.Picture) ([]Violation, api.Errno) {
	if e := common.First(gamutError(g), raster.PicturesError(p[:]...)); e != api.OK {
		return nil, e
	}
	var violations []Violation
places:
	for place, colour := range placesOf(p) {
		for i, plane := range g {
			if !plane.permits(colour) {
				violations = append(violations, Violation{Place: place, Plane: i})
				continue places
			}
		}
	}
	return violations, api.OK
}

// Clipped returns the clipped picture.
func Clipped(p picture.Picture, limits api.Interval) (picture.Picture, api.Errno) {
	if e := common.First(picture.CheckPicture(p), common.IntervalError(limits)); e != api.OK {
		return picture.Picture{}, e
	}
	return raster.WithLevels(p, common.Mapped(common.Levels(p.Samples), func(level int) int {
		return min(max(level, limits.Low), limits.High)
	}))
}

// Luma returns the luma of three pictures.
func Luma(p [3]picture.Picture, weights [3]int) (picture.Picture, api.Errno) {
	if e := common.First(raster.PicturesError(p[:]...), weightsError(weights)); e != api.OK {
		return picture.Picture{}, e
	}
	var levels []int
	for _, colour := range placesOf(p) {
		levels = append(levels, common.Nearest(dot(weights, colour), Unity))
	}
	return raster.WithLevels(p[0], levels)
}

// Shaded returns the shaded picture.
func Shaded(p picture.Picture, columns, rows []int) (picture.Picture, api.Errno) {
	e := common.First(picture.CheckPicture(p), gainsError(columns, p.Width), gainsError(rows, p.Height))
	if e != api.OK {
		return picture.Picture{}, e
	}
	levels := common.Levels(p.Samples)
	for i, level := range levels {
		gain := columns[i%p.Width] * rows[i/p.Width]
		levels[i] = common.Nearest(level*gain, Unity*Unity)
	}
	return raster.WithLevels(p, levels)
}

// permits reports whether a plane permits a colour.
func (p Plane) permits(colour [3]int) bool {
	return dot(p.Normal, colour) <= p.Most
}

// placesOf returns the places of three pictures of one size, with their colours.
func placesOf(p [3]picture.Picture) iter.Seq2[int, [3]int] {
	return func(yield func(int, [3]int) bool) {
		for place := range p[0].Samples {
			var colour [3]int
			for i, one := range p {
				colour[i] = common.Level(one.Samples[place])
			}
			if !yield(place, colour) {
				return
			}
		}
	}
}

// gamutError returns the error of a gamut, or OK.
func gamutError(g []Plane) api.Errno {
	return common.First(common.ErrorIf(len(g) > MaxPlanes, api.ErrMany), common.FirstOf(g, planeError))
}

// planeError returns the error of a plane, or OK.
func planeError(p Plane) api.Errno {
	return common.First(entriesError(p.Normal), common.Outside(p.Most, -MaxSum, MaxSum))
}

// weightsError returns the error of the weights of a luma, or OK.
func weightsError(l [3]int) api.Errno {
	return common.First(
		common.FirstOf(l[:], func(n int) api.Errno { return common.Outside(n, 0, Unity) }),
		common.ErrorIf(l[0]+l[1]+l[2] != Unity, api.ErrForm),
	)
}

// gainsError returns the error of gains for n columns or rows, or OK.
func gainsError(l []int, n int) api.Errno {
	return common.First(
		common.ErrorIf(len(l) != n, api.ErrShape),
		common.FirstOf(l, func(n int) api.Errno { return common.Outside(n, 0, MaxGain) }),
	)
}
