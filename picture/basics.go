package picture

import (
	"math"

	"genlock/api"
)

// The generator of permutations: x is replaced by its multiple, modulo a prime.
const (
	drawFactor  = 1226874159
	drawModulus = 2147483647
)

// parts is how many levels lie between two whole numbers.
const parts = 16

// IsName reports whether a string is a name.
func IsName(s string) bool {
	if len(s) < 1 || len(s) > api.MaxName {
		return false
	}
	for i, r := range s {
		if !isLetter(r) && (i == 0 || !isDigit(r) && r != '_') {
			return false
		}
	}
	return true
}

func isLetter(r rune) bool {
	return r >= 'A' && r <= 'Z' || r >= 'a' && r <= 'z'
}

func isDigit(r rune) bool {
	return r >= '0' && r <= '9'
}

// Draw returns the permutation of n elements by a key.
func Draw(key, n int) ([]int, api.Errno) {
	e := first(outside(key, 1, drawModulus-1), outside(n, 0, api.MaxList))
	if e != api.OK {
		return nil, e
	}
	l := make([]int, n)
	for i := range n {
		l[i] = i
	}
	x := key
	for i := n - 1; i >= 1; i-- {
		x = drawFactor * x % drawModulus
		j := x % (i + 1)
		l[i], l[j] = l[j], l[i]
	}
	return l, api.OK
}

// CheckRatio returns the error of a ratio, or OK.
func CheckRatio(x api.Ratio) api.Errno {
	return first(
		outside(x.Num, -api.MaxNumber, api.MaxNumber),
		outside(x.Den, 1, api.MaxNumber),
		errorIf(divisor(x.Num, x.Den) > 1, api.ErrForm),
	)
}

// CheckSample returns the error of a sample, or OK.
func CheckSample(x float32) api.Errno {
	return checkNumber(x, api.MaxValue)
}

// checkNumber returns the error of a multiple of 1/16 with a greatest absolute value.
func checkNumber(x float32, most float64) api.Errno {
	// In float64 no float32 overflows when it is multiplied by parts.
	wide := float64(x)
	return first(
		errorIf(math.IsNaN(wide) || math.IsInf(wide, 0), api.ErrForm),
		errorIf(math.Abs(wide) > most || wide*parts != math.Trunc(wide*parts), api.ErrRange),
	)
}

// level returns the integer of a sample.
func level(x float32) int {
	return int(x * parts)
}

// sample returns the sample with an integer; it is never -0.
func sample(level int) float32 {
	return float32(level) / parts
}

// isLarge reports whether an integer is not that of a sample.
func isLarge(level int) bool {
	return level < -api.MaxValue*parts || level > api.MaxValue*parts
}

// divisor returns the greatest common divisor of two numbers; it is 0 for two zeros.
func divisor(a, b int) int {
	for b != 0 {
		a, b = b, a%b
	}
	return max(a, -a)
}

// first returns the first error of some, or OK.
func first(l ...api.Errno) api.Errno {
	for _, e := range l {
		if e != api.OK {
			return e
		}
	}
	return api.OK
}

// errorIf returns an error if something is wrong, otherwise OK.
func errorIf(wrong bool, e api.Errno) api.Errno {
	if wrong {
		return e
	}
	return api.OK
}

// outside returns ErrRange if a number is not from low to high, otherwise OK.
func outside(n, low, high int) api.Errno {
	return errorIf(n < low || n > high, api.ErrRange)
}

// mapped returns a list of what becomes of each element of another one.
func mapped[A, B any](l []A, change func(A) B) []B {
	changed := make([]B, len(l))
	for i, x := range l {
		changed[i] = change(x)
	}
	return changed
}
