package composite

import (
	"genlock/api"
	"genlock/common"
	"genlock/picture"
)

// Encoded returns the signal of a line with a number.
func Encoded(p Parts, line int) ([]float32, api.Errno) {
	if e := common.First(CheckParts(p), lineError(line)); e != api.OK {
		return nil, e
	}
	return signalOf(p, line)
}

// EncodedField returns the signals of all lines.
func EncodedField(l []Parts) ([][]float32, api.Errno) {
	if e := linesError(l, CheckParts, Parts.length); e != api.OK {
		return nil, e
	}
	field := make([][]float32, len(l))
	for line, p := range l {
		signal, e := signalOf(p, line)
		if e != api.OK {
			return nil, e
		}
		field[line] = signal
	}
	return field, api.OK
}

// Panels returns the transform of each cycle.
func Panels(l []float32) ([][4]complex64, api.Errno) {
	if e := CheckSignal(l); e != api.OK {
		return nil, e
	}
	panels := make([][4]complex64, len(l)/Quarters)
	for c := range panels {
		panels[c], _ = picture.Four([Quarters]float32(l[Quarters*c:]))
	}
	return panels, api.OK
}

// signalOf returns the signal of parts without an error.
func signalOf(p Parts, line int) ([]float32, api.Errno) {
	signal := make([]int, len(p.Luma))
	for c, luma := range cyclesOf(p.Luma) {
		colour := [2]int{common.Level(p.U[c]), common.Level(p.V[c])}
		carried := luma.plus(signOf(line), carrier(colour))
		copy(signal[Quarters*c:], carried[:])
	}
	return common.Samples(signal)
}
