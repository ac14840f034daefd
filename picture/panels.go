package picture

import (
	"genlock/api"
	"genlock/common"
)

// back is the power of -i that is i: with it a transform is undone, but for the divisor 4.
const back = 3

// Four returns the transform of four samples.
func Four(l [4]float32) ([4]complex64, api.Errno) {
	if e := common.FirstOf(l[:], CheckSample); e != api.OK {
		return [4]complex64{}, e
	}
	var numbers [4]complex64
	for n, x := range l {
		numbers[n] = complex(x, 0)
	}
	return turned(numbers, 1), api.OK
}

// Unfour returns the samples of a panel.
func Unfour(p [4]complex64) ([4]float32, api.Errno) {
	if e := common.FirstOf(p[:], checkPoint); e != api.OK {
		return [4]float32{}, e
	}
	var l [4]float32
	for n, z := range turned(p, back) {
		l[n] = real(z) / 4
		if imag(z) != 0 || CheckSample(l[n]) != api.OK {
			return [4]float32{}, api.ErrForm
		}
	}
	return l, api.OK
}

// checkPoint returns the error of a number of a panel, or OK.
func checkPoint(z complex64) api.Errno {
	a, b := checkNumber(real(z), 4*api.MaxValue), checkNumber(imag(z), 4*api.MaxValue)
	return common.First(common.ErrorIf(a == api.ErrForm || b == api.ErrForm, api.ErrForm), a, b)
}

// turned returns at each k the sum over n of the number n times -i to the power of step k n. All sums on the way have at most 19 bits, so that they are exact in complex64.
func turned(numbers [4]complex64, step int) [4]complex64 {
	var sums [4]complex64
	for k := range 4 {
		for n, z := range numbers {
			power := common.Power(step * k * n)
			sums[k] += z * complex(float32(power.Re), float32(power.Im))
		}
	}
	return sums
}
