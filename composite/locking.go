package composite

import (
	"cmp"
	"slices"

	"genlock/api"
	"genlock/common"
	"genlock/picture"
)

// Burst returns the phasor of a burst, in sixteenths.
func Burst(b [4]float32) (api.Gauss, api.Errno) {
	if e := burstError(b); e != api.OK {
		return api.Gauss{}, e
	}
	return phasor(b), api.OK
}

// Locked returns by how many samples the cycles of a burst begin late.
func Locked(b [4]float32, least int) (int, api.Errno) {
	if e := common.First(burstError(b), common.Outside(least, 1, MaxLimit)); e != api.OK {
		return 0, e
	}
	var turned [Quarters]api.Gauss
	for q := range Quarters {
		turned[q] = times(phasor(b), common.Power(q))
	}
	greatest := slices.MaxFunc(turned[:], func(a, b api.Gauss) int { return cmp.Compare(a.Re, b.Re) }) // the first one of several
	if greatest.Re < least {
		return 0, api.ErrNone
	}
	return slices.Index(turned[:], greatest), api.OK
}

// Aligned returns the signal from its first whole cycle on.
func Aligned(l []float32, late int) ([]float32, api.Errno) {
	if e := common.First(CheckSignal(l), common.Outside(late, 0, Quarters-1)); e != api.OK {
		return nil, e
	}
	rest := l[min(late, len(l)):]
	aligned := make([]float32, len(rest)/Quarters*Quarters)
	copy(aligned, rest)
	return aligned, api.OK
}

// Clamped returns a signal whose porch has a level.
func Clamped(l []float32, porch api.Span, level float32) ([]float32, api.Errno) {
	e := common.First(CheckSignal(l), common.SpanError(porch, len(l)), picture.CheckSample(level))
	if e != api.OK {
		return nil, e
	}
	shift := common.Level(level) - mean(l[porch.From:porch.To])
	return common.Samples(common.Mapped(l, func(x float32) int { return common.Level(x) + shift }))
}

// burstError returns the error of a burst, or OK.
func burstError(b [4]float32) api.Errno {
	return common.FirstOf(b[:], picture.CheckSample)
}

// phasor returns the phasor of a burst.
func phasor(b [4]float32) api.Gauss {
	n := cycleAt(b[:], 0).opposite()
	return api.Gauss{Re: n[0], Im: n[1]}
}

// times returns the product of two complex integers.
func times(a, b api.Gauss) api.Gauss {
	return api.Gauss{Re: a.Re*b.Re - a.Im*b.Im, Im: a.Re*b.Im + a.Im*b.Re}
}

// mean returns the mean of the integers of samples, rounded; there is at least one.
func mean(l []float32) int {
	sum := 0
	for _, x := range l {
		sum += common.Level(x)
	}
	return common.Nearest(sum, len(l))
}
