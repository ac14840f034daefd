package picture

import (
	"math"
	"slices"

	"genlock/api"
	"genlock/common"
)

// mark is what the stream of a picture begins with.
const mark = "PICT"

// The numbers of the checksum of a stream.
const (
	sumFactor  = 263
	sumModulus = 16777183
)

// wordSize is the number of bytes of a sample, and of the checksum.
const wordSize = 4

// Pack returns the stream of a picture.
func Pack(p Picture) ([]byte, api.Errno) {
	if e := CheckPicture(p); e != api.OK {
		return nil, e
	}
	s := []byte(mark)
	s = append(s, byte(len(p.Name)))
	s = append(s, p.Name...)
	s = append(s, byte(p.Width), byte(p.Height))
	for _, n := range common.Levels(p.Samples) { // by way of the levels, -0 becomes 0
		s = common.AppendNumber(s, int(math.Float32bits(common.Sample(n))), wordSize)
	}
	return common.AppendNumber(s, checksum(s), wordSize), api.OK
}

// Unpack returns the picture of a stream.
func Unpack(s []byte) (Picture, api.Errno) {
	if len(s) > api.MaxStream {
		return Picture{}, api.ErrLong
	}
	p, rest, e := unpackHead(s)
	if e != api.OK {
		return Picture{}, e
	}
	size := p.Width * p.Height * wordSize
	e = common.First(
		common.ErrorIf(len(rest) < size+wordSize, api.ErrTorn),
		common.ErrorIf(len(rest) > size+wordSize, api.ErrShape),
	)
	if e != api.OK {
		return Picture{}, e
	}
	if common.NumberOf(rest[size:]) != checksum(s[:len(s)-wordSize]) {
		return Picture{}, api.ErrCheck
	}
	for word := range slices.Chunk(rest[:size], wordSize) {
		p.Samples = append(p.Samples, math.Float32frombits(uint32(common.NumberOf(word))))
	}
	e = common.First(CheckPicture(p), common.ErrorIf(slices.ContainsFunc(p.Samples, isMinusZero), api.ErrForm))
	if e != api.OK {
		return Picture{}, e
	}
	return p, api.OK
}

// unpackHead returns the name and the size at the beginning of a stream, and what stands behind them.
func unpackHead(s []byte) (Picture, []byte, api.Errno) {
	if len(s) < len(mark) {
		return Picture{}, nil, api.ErrTorn
	}
	if string(s[:len(mark)]) != mark {
		return Picture{}, nil, api.ErrForm
	}
	rest := s[len(mark):]
	if len(rest) < 1 {
		return Picture{}, nil, api.ErrTorn
	}
	length := int(rest[0])
	rest = rest[1:]
	if len(rest) < length+2 {
		return Picture{}, nil, api.ErrTorn
	}
	p := Picture{Name: string(rest[:length]), Width: int(rest[length]), Height: int(rest[length+1])}
	return p, rest[length+2:], api.OK
}

// checksum returns the checksum of bytes.
func checksum(s []byte) int {
	return check(s, sumFactor, sumModulus)
}

// isMinusZero reports whether a sample is -0.
func isMinusZero(x float32) bool {
	return x == 0 && math.Signbit(float64(x))
}
