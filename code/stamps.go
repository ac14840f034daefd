package code

import (
	"genlock/api"
	"genlock/common"
)

// Where the parts of a word begin; the parts of a label stand before the rate, the frames first.
const (
	rateAt   = 4
	userAt   = 5
	parityAt = 7
	endAt    = 8
)

// wordEnd is what each word ends with.
var wordEnd = [2]byte{63, 253}

// Stamp is a rate, a label and a user's number.
type Stamp struct {
	Rate  Rate
	Label Label
	User  int
}

// CheckStamp returns the first error of a stamp, or OK.
func CheckStamp(s Stamp) api.Errno {
	return common.First(CheckLabel(s.Rate, s.Label), common.Outside(s.User, 0, MaxUser))
}

// Written returns the word of a stamp.
func Written(s Stamp) ([Size]byte, api.Errno) {
	if e := CheckStamp(s); e != api.OK {
		return [Size]byte{}, e
	}
	w := [Size]byte{rateAt: s.Rate.name().code, userAt: byte(s.User >> 8), userAt + 1: byte(s.User), endAt: wordEnd[0], endAt + 1: wordEnd[1]}
	for i, p := range parts(s.Rate, s.Label) {
		w[rateAt-1-i] = digitsByte(p.value())
	}
	w[parityAt] = common.Parity(w[:parityAt])
	return w, api.OK
}

// Read returns the stamp of a word.
func Read(w [Size]byte) (Stamp, api.Errno) {
	name, known := named(func(n rateName) bool { return n.code == w[rateAt] })
	s := Stamp{
		Rate:  name.rate,
		Label: Label{Hours: digitsNumber(w[3]), Minutes: digitsNumber(w[2]), Seconds: digitsNumber(w[1]), Frames: digitsNumber(w[0])},
		User:  int(w[userAt])<<8 + int(w[userAt+1]),
	}
	e := common.First(
		common.ErrorIf([2]byte(w[endAt:]) != wordEnd, api.ErrForm),
		common.ErrorIf(w[parityAt] != common.Parity(w[:parityAt]), api.ErrCheck),
		common.FirstOf(w[:rateAt], digitsError),
		common.ErrorIf(!known, api.ErrForm),
		CheckStamp(s),
	)
	if e != api.OK {
		return Stamp{}, e
	}
	return s, api.OK
}

// digitsByte returns the byte with the two digits of a number below 100.
func digitsByte(n int) byte {
	return byte(n/10<<4 + n%10)
}

// digitsNumber returns the number with the two digits of a byte.
func digitsNumber(b byte) int {
	return 10*int(b>>4) + int(b&15)
}

// digitsError returns the error of a byte of two digits, or OK.
func digitsError(b byte) api.Errno {
	return common.ErrorIf(b>>4 > 9 || b&15 > 9, api.ErrForm)
}
