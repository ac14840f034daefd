package tape

import (
	"genlock/api"
	"genlock/code"
	"genlock/common"
)

// Converted returns the frames of a list at another rate.
func Converted(reels []Reel, l []Edit, repeats []int) ([][2]int, api.Errno) {
	_, length, e := Starts(reels, l)
	e = common.First(e, code.CheckCadence(repeats), common.ErrorIf(length > code.MaxFrames, api.ErrMany))
	if e != api.OK {
		return nil, e
	}
	return code.Pulled(repeats, length)
}

// Labels returns the label at which each edit begins.
func Labels(reels []Reel, l []Edit, from code.Stamp) ([]code.Label, api.Errno) {
	starts, _, e := Starts(reels, l)
	if e = common.First(e, code.CheckStamp(from)); e != api.OK {
		return nil, e
	}
	return common.Mapped(starts, func(frame int) code.Label {
		label, _ := code.Added(from.Rate, from.Label, frame) // a stamp without an error has later labels
		return label
	}), api.OK
}
