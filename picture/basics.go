package picture

import (
	"math"

	"genlock/api"
	"genlock/common"
)

// The generator of permutations: x is replaced by its multiple, modulo a prime.
const (
	drawFactor  = 1226874159
	drawModulus = 2147483647
)

// IsName reports whether a string is a name.
func IsName(s string) bool {
	if len(s) < 1 || len(s) > api.MaxName {
		return false
	}
	for i, r := range s {
		if !isLetter(r) && (i == 0 || !isDigit(r) && r != '_') {
			return false
		}
	}
	return true
}

func isLetter(r rune) bool {
	return r >= 'A' && r <= 'Z' || r >= 'a' && r <= 'z'
}

func isDigit(r rune) bool {
	return r >= '0' && r <= '9'
}

// Draw returns the permutation of n elements by a key.
func Draw(key, n int) ([]int, api.Errno) {
	e := common.First(common.Outside(key, 1, drawModulus-1), common.Outside(n, 0, api.MaxList))
	if e != api.OK {
		return nil, e
	}
	l := make([]int, n)
	for i := range n {
		l[i] = i
	}
	x := key
	for i := n - 1; i >= 1; i-- {
		x = drawFactor * x % drawModulus
		j := x % (i + 1)
		l[i], l[j] = l[j], l[i]
	}
	return l, api.OK
}

// CheckRatio returns the error of a ratio, or OK.
func CheckRatio(x api.Ratio) api.Errno {
	return common.First(
		common.Outside(x.Num, -api.MaxNumber, api.MaxNumber),
		common.Outside(x.Den, 1, api.MaxNumber),
		common.ErrorIf(common.Divisor(x.Num, x.Den) > 1, api.ErrForm),
	)
}

// CheckSample returns the error of a sample, or OK.
func CheckSample(x float32) api.Errno {
	return checkNumber(x, api.MaxValue)
}

// checkNumber returns the error of a multiple of 1/16 with a greatest absolute value.
func checkNumber(x float32, most float64) api.Errno {
	// In float64 no float32 overflows when it is multiplied by common.Parts.
	wide := float64(x)
	return common.First(
		common.ErrorIf(math.IsNaN(wide) || math.IsInf(wide, 0), api.ErrForm),
		common.ErrorIf(math.Abs(wide) > most || wide*common.Parts != math.Trunc(wide*common.Parts), api.ErrRange),
	)
}
