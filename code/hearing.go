package code

import (
	"genlock/api"
	"genlock/common"
)

// parityBit is the highest bit of a byte, by which all bytes that are sent have an odd number of bits.
const parityBit = 128

// wrong is what stands for a byte that is heard wrong.
const wrong = '?'

// Sent returns the bytes of a text with parity.
func Sent(text string) ([]byte, api.Errno) {
	e := common.First(
		common.ErrorIf(len(text) > MaxBytes, api.ErrLong),
		formError(text, 0, parityBit-1),
	)
	if e != api.OK {
		return nil, e
	}
	return common.Mapped([]byte(text), func(b byte) byte {
		if isOdd(b) {
			return b
		}
		return b | parityBit
	}), api.OK
}

// Heard returns the text of bytes with parity, and the indices of those that are wrong.
func Heard(s []byte) (string, []int, api.Errno) {
	if e := streamError(s); e != api.OK {
		return "", nil, e
	}
	text := common.Mapped(s, func(b byte) byte {
		if isOdd(b) {
			return b &^ parityBit
		}
		return wrong
	})
	return string(text), common.Indices(s, func(_ int, b byte) bool { return !isOdd(b) }), api.OK
}

// isOdd reports whether a byte has an odd number of bits.
func isOdd(b byte) bool {
	ones := 0
	for i := range 8 {
		ones += int(b >> i & 1)
	}
	return ones%2 == 1
}
