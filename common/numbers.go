package common

import (
	"slices"

	"genlock/api"
)

// Parts is how many levels lie between two whole numbers.
const Parts = 16

// powers has the powers of -i, from the power 0 on.
var powers = [4]api.Gauss{{Re: 1}, {Im: -1}, {Re: -1}, {Im: 1}}

// maxLevel is the greatest level.
const maxLevel = api.MaxValue * Parts

// Level returns the integer of a sample.
func Level(x float32) int {
	return int(x * Parts)
}

// Sample returns the sample with an integer; it is never -0.
func Sample(level int) float32 {
	return float32(level) / Parts
}

// IsLarge reports whether an integer is not that of a sample.
func IsLarge(level int) bool {
	return level < -maxLevel || level > maxLevel
}

// LevelError returns ErrRange if an integer is not that of a sample, otherwise OK.
func LevelError(level int) api.Errno {
	return ErrorIf(IsLarge(level), api.ErrRange)
}

// IntervalError returns the error of an interval of levels, or OK.
func IntervalError(x api.Interval) api.Errno {
	return First(LevelError(x.Low), LevelError(x.High), ErrorIf(x.Low > x.High, api.ErrOrder))
}

// Levels returns the integers of samples.
func Levels(l []float32) []int {
	return Mapped(l, Level)
}

// Samples returns the samples with these integers; ErrLarge if one is not a sample's.
func Samples(l []int) ([]float32, api.Errno) {
	if slices.ContainsFunc(l, IsLarge) {
		return nil, api.ErrLarge
	}
	return Mapped(l, Sample), api.OK
}

// Nearest returns the integer nearest to n / den, from the middle the greater one; den is above 0.
func Nearest(n, den int) int {
	doubled, by := 2*n+den, 2*den
	quotient := doubled / by
	if doubled%by < 0 { // a quotient of Go is cut off towards 0
		quotient--
	}
	return quotient
}

// Power returns -i to the power of n.
func Power(n int) api.Gauss {
	return powers[n&3]
}

// Ratio returns a quotient in lowest terms; den is not 0.
func Ratio(num, den int) api.Ratio {
	by := Divisor(num, den)
	if den < 0 {
		by = -by
	}
	return api.Ratio{Num: num / by, Den: den / by}
}

// Divisor returns the greatest common divisor of two numbers; it is 0 for two zeros.
func Divisor(a, b int) int {
	for b != 0 {
		a, b = b, a%b
	}
	return max(a, -a)
}
