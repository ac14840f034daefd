// Package raster has what the layers above picture share about pictures, and no chapter lists: their sizes, and pictures with other levels. It is no layer.
package raster

import (
	"genlock/api"
	"genlock/common"
	"genlock/picture"
)

// Size returns the width and the height of a picture.
func Size(p picture.Picture) [2]int {
	return [2]int{p.Width, p.Height}
}

// PicturesError returns the error of the first picture with one, then ErrShape if not all have one size, or OK.
func PicturesError(l ...picture.Picture) api.Errno {
	return common.First(
		common.FirstOf(l, picture.CheckPicture),
		common.FirstOf(l, func(p picture.Picture) api.Errno { return common.ErrorIf(Size(p) != Size(l[0]), api.ErrShape) }),
	)
}

// WithLevels returns a picture with the name and the size of p, and the samples with these integers; ErrLarge if one is not a sample's.
func WithLevels(p picture.Picture, l []int) (picture.Picture, api.Errno) {
	samples, e := common.Samples(l)
	if e != api.OK {
		return picture.Picture{}, e
	}
	p.Samples = samples
	return p, api.OK
}
