package code

import (
	"slices"

	"genlock/api"
	"genlock/common"
)

// maxPulled is how many frames a number of frames is pulled to at most.
const maxPulled = MaxFrames * MaxRepeat / 2

// CheckCadence returns the first error of a cadence, or OK.
func CheckCadence(repeats []int) api.Errno {
	return common.First(
		common.ErrorIf(len(repeats) == 0, api.ErrEmpty),
		common.ErrorIf(len(repeats) > MaxRepeats, api.ErrMany),
		common.FirstOf(repeats, func(n int) api.Errno { return common.Outside(n, 1, MaxRepeat) }),
	)
}

// Pulled returns the frames whose fields make each frame of another rate.
func Pulled(repeats []int, frames int) ([][2]int, api.Errno) {
	if e := common.First(CheckCadence(repeats), common.Outside(frames, 0, MaxFrames)); e != api.OK {
		return nil, e
	}
	return pulled(repeats, frames), api.OK
}

// Undone returns how many frames were pulled.
func Undone(repeats []int, l [][2]int) (int, api.Errno) {
	if e := common.First(CheckCadence(repeats), common.ErrorIf(len(l) > maxPulled, api.ErrMany)); e != api.OK {
		return 0, e
	}
	least, e := 0, api.ErrProof
search:
	for frames := range MaxFrames + 1 {
		whole := pulled(repeats, frames)
		switch {
		case slices.Equal(whole, l):
			least, e = frames, api.OK
			break search
		case len(whole) > len(l): // what more frames are pulled to is not shorter
			break search
		}
	}
	return least, e
}

// pulled returns what a number of frames is pulled to.
func pulled(repeats []int, frames int) [][2]int {
	var fields []int
	for i := range frames {
		fields = append(fields, slices.Repeat([]int{i}, repeats[i%len(repeats)])...)
	}
	var l [][2]int
	for pair := range slices.Chunk(fields, 2) {
		if len(pair) == 2 {
			l = append(l, [2]int(pair))
		}
	}
	return l
}
