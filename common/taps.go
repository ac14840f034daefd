package common

import (
	"genlock/api"
)

// TapsError returns the error of taps of which there are at most so many, with at most this absolute value, or OK.
func TapsError(taps []int, many, most int) api.Errno {
	return First(
		ErrorIf(len(taps) == 0, api.ErrEmpty),
		ErrorIf(len(taps) > many, api.ErrMany),
		FirstOf(taps, func(n int) api.Errno { return Outside(n, -most, most) }),
	)
}

// Tapped returns the sum over all taps j of the tap times the level of the element at + step j of a list; where there is no such element, the level is 0.
func Tapped[T any](l []T, taps []int, at, step int, level func(T) int) int {
	sum := 0
	for j := range len(taps) {
		if from := at + step*j; from >= 0 && from < len(l) {
			sum += taps[j] * level(l[from])
		}
	}
	return sum
}
