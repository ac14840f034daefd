package colour

import (
	"genlock/api"
	"genlock/common"
	"genlock/picture"
	"genlock/raster"
)

// maxLimit is the greatest limit of a block of sound.
const maxLimit = 1 << 60

// Flashes returns the frames at which a sequence flashes.
func Flashes(l []picture.Picture, step float32) ([]int, api.Errno) {
	if e := common.First(sequenceError(l), stepError(step)); e != api.OK {
		return nil, e
	}
	return flashesOf(l, step), api.OK
}

// Broken returns the frames at which a sequence breaks a limit.
func Broken(l []picture.Picture, step float32, most, window int) ([]int, api.Errno) {
	e := common.First(
		sequenceError(l),
		stepError(step),
		common.Outside(most, 0, MaxFrames),
		common.Outside(window, 1, MaxFrames),
	)
	if e != api.OK {
		return nil, e
	}
	flashes := flashesOf(l, step)
	return common.Indices(l, func(n int, _ picture.Picture) bool {
		return among(flashes, n-window+1, n) > most
	}), api.OK
}

// Loudness returns the loudness of sound, block by block.
func Loudness(sound []float32, taps []int, block int) ([]int, api.Errno) {
	if e := common.First(soundError(sound), tapsError(taps), common.Outside(block, 1, MaxSound)); e != api.OK {
		return nil, e
	}
	return loudnessOf(sound, taps, block), api.OK
}

// Loud returns the indices of the loud blocks.
func Loud(sound []float32, taps []int, block, limit int) ([]int, api.Errno) {
	e := common.First(
		soundError(sound),
		tapsError(taps),
		common.Outside(block, 1, MaxSound),
		common.Outside(limit, 0, maxLimit),
	)
	if e != api.OK {
		return nil, e
	}
	return common.Indices(loudnessOf(sound, taps, block), func(_, sum int) bool { return sum > limit }), api.OK
}

// flashesOf returns the flashes of a sequence without an error.
func flashesOf(l []picture.Picture, step float32) []int {
	var flashes []int
	var before api.Ratio
	for n, p := range l {
		mean, _ := picture.Mean(p)
		if n > 0 && differ(before, mean, common.Level(step)) {
			flashes = append(flashes, n)
		}
		before = mean
	}
	return flashes
}

// differ reports whether two means differ by more than the sample with a level.
func differ(a, b api.Ratio, level int) bool {
	difference := a.Num*b.Den - b.Num*a.Den
	return max(difference, -difference)*common.Parts > level*a.Den*b.Den
}

// among returns how many numbers of a list are from low to high.
func among(l []int, low, high int) int {
	count := 0
	for _, n := range l {
		if n >= low && n <= high {
			count++
		}
	}
	return count
}

// loudnessOf returns the loudness of sound without an error. A sum has at most 60 bits, so that it fits.
func loudnessOf(sound []float32, taps []int, block int) []int {
	sums := make([]int, len(sound)/block)
	for i := range sums {
		for n := i * block; n < (i+1)*block; n++ {
			x := common.Tapped(sound, taps, n, -1, common.Level)
			sums[i] += x * x
		}
	}
	return sums
}

// sequenceError returns the error of a sequence, or OK.
func sequenceError(l []picture.Picture) api.Errno {
	if len(l) > MaxFrames {
		return api.ErrMany
	}
	return common.FirstOf(l, func(p picture.Picture) api.Errno {
		return common.First(picture.CheckPicture(p), common.ErrorIf(raster.Size(p) != raster.Size(l[0]), api.ErrShape))
	})
}

// stepError returns the error of a step, or OK.
func stepError(step float32) api.Errno {
	return common.First(picture.CheckSample(step), common.ErrorIf(step < 0, api.ErrRange))
}

// soundError returns the error of sound, or OK.
func soundError(sound []float32) api.Errno {
	return common.First(common.ErrorIf(len(sound) > MaxSound, api.ErrMany), common.FirstOf(sound, picture.CheckSample))
}

// tapsError returns the error of taps, or OK.
func tapsError(taps []int) api.Errno {
	return common.TapsError(taps, MaxTaps, MaxTap)
}
