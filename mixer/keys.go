package mixer

import (
	"genlock/api"
	"genlock/common"
	"genlock/picture"
	"genlock/raster"
)

// Slope is a clip and a gain.
type Slope struct {
	Clip int
	Gain int
}

// CheckKey returns the first error of a key, or OK.
func CheckKey(key []int) api.Errno {
	return keysError(key)
}

// Linear returns the linear key of a picture.
func Linear(p picture.Picture, s Slope) ([]int, api.Errno) {
	if e := common.First(picture.CheckPicture(p), s.check()); e != api.OK {
		return nil, e
	}
	return common.Mapped(common.Levels(p.Samples), s.share), api.OK
}

// Chroma returns the chroma key of two pictures.
func Chroma(b, r picture.Picture, colour [2]int, s Slope) ([]int, api.Errno) {
	e := common.First(
		raster.PicturesError(b, r),
		common.FirstOf(colour[:], common.LevelError),
		s.check(),
	)
	if e != api.OK {
		return nil, e
	}
	return common.Paired(common.Levels(b.Samples), common.Levels(r.Samples), func(x, y int) int {
		return s.share(distance(x, colour[0]) + distance(y, colour[1]))
	}), api.OK
}

// Unspilled returns a picture without spill.
func Unspilled(p picture.Picture, key []int) (picture.Picture, api.Errno) {
	return changed(p, key, func(level, share int) int {
		return level - shareOf(level, Full-share)
	})
}

// Inverted returns the inverted key.
func Inverted(key []int) ([]int, api.Errno) {
	if e := CheckKey(key); e != api.OK {
		return nil, e
	}
	return common.Mapped(key, func(share int) int { return Full - share }), api.OK
}

// Lesser returns the lesser key of two keys.
func Lesser(a, b []int) ([]int, api.Errno) {
	return chosen(a, b, func(x, y int) int { return min(x, y) })
}

// Greater returns the greater key of two keys.
func Greater(a, b []int) ([]int, api.Errno) {
	return chosen(a, b, func(x, y int) int { return max(x, y) })
}

// chosen returns the key that has one of the shares of two keys at each place.
func chosen(a, b []int, choose func(x, y int) int) ([]int, api.Errno) {
	if e := common.First(keysError(a, b), common.ErrorIf(len(a) != len(b), api.ErrShape)); e != api.OK {
		return nil, e
	}
	return common.Paired(a, b, choose), api.OK
}

// check returns the error of the slope, or OK.
func (s Slope) check() api.Errno {
	return common.First(common.LevelError(s.Clip), common.Outside(s.Gain, 1, MaxGain))
}

// share returns the share that a level gets.
func (s Slope) share(level int) int {
	return min(max(common.Nearest((level-s.Clip)*s.Gain, Full), 0), Full)
}

// distance returns the absolute difference of two levels.
func distance(a, b int) int {
	return max(a-b, b-a)
}

// keysError returns the first error of some keys, one after the other, or OK.
func keysError(keys ...[]int) api.Errno {
	e := api.OK
search:
	for _, key := range keys {
		e = common.First(
			common.ErrorIf(len(key) == 0, api.ErrEmpty),
			common.ErrorIf(len(key) > api.MaxSamples, api.ErrMany),
		)
		if e != api.OK {
			break search
		}
		for _, share := range key {
			e = shareError(share)
			if e != api.OK {
				break search
			}
		}
	}
	return e
}

// keyError returns the error of a key for a picture, or OK.
func keyError(p picture.Picture, key []int) api.Errno {
	return common.First(CheckKey(key), common.ErrorIf(len(key) != len(p.Samples), api.ErrShape))
}
