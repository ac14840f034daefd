package picture

import (
	"slices"

	"genlock/api"
	"genlock/common"
)

// Where the parts of a frame begin.
const (
	kindAt    = 1
	counterAt = 2
	dataAt    = 3
	parityAt  = 13
	checkAt   = 14
)

// The numbers of the check of a frame.
const (
	checkFactor  = 251
	checkModulus = 65521
)

// counters is how many counters there are; 0 follows the last one.
const counters = 256

// Packet is ten bytes of a kind, with a counter.
type Packet struct {
	Kind    int
	Counter int
	Data    [10]byte
}

// Encode returns the frame of a packet.
func Encode(p Packet) ([Size]byte, api.Errno) {
	if e := packetError(p); e != api.OK {
		return [Size]byte{}, e
	}
	frame := [Size]byte{0: Sync, kindAt: byte(p.Kind), counterAt: byte(p.Counter)}
	copy(frame[dataAt:parityAt], p.Data[:])
	frame[parityAt] = common.Parity(frame[kindAt:parityAt])
	sum := check(frame[:checkAt], checkFactor, checkModulus)
	frame[checkAt], frame[checkAt+1] = byte(sum>>8), byte(sum)
	return frame, api.OK
}

// Decode returns the packet of a frame.
func Decode(s [Size]byte) (Packet, api.Errno) {
	if s[0] != Sync {
		return Packet{}, api.ErrForm
	}
	p := Packet{Kind: int(s[kindAt]), Counter: int(s[counterAt])}
	copy(p.Data[:], s[dataAt:parityAt])
	if frame, e := Encode(p); e != api.OK || frame != s {
		return Packet{}, api.ErrCheck
	}
	return p, api.OK
}

// Received returns the packets of a stream, and what is skipped.
func Received(s []byte) ([]Packet, []api.Span, api.Errno) {
	if len(s) > MaxPackets*Size {
		return nil, nil, api.ErrLong
	}
	var packets []Packet
	var skipped []api.Span
	next := 0
	for at, p := range common.Search(s, Size, packetOf) {
		packets = append(packets, p)
		skipped = withGap(skipped, api.Span{From: next, To: at})
		next = at + Size
	}
	return packets, withGap(skipped, api.Span{From: next, To: len(s)}), api.OK
}

// Lost returns the counters of a kind that are lost.
func Lost(l []Packet, kind int) ([]int, api.Errno) {
	e := common.First(common.ErrorIf(len(l) > MaxPackets, api.ErrMany), common.FirstOf(l, packetError), common.Outside(kind, 0, counters-1))
	if e != api.OK {
		return nil, e
	}
	var lost []int
	var last Packet
	begun := false
search:
	for _, p := range l {
		if p.Kind != kind {
			continue
		}
		for due := following(last, p); begun && due != p; due = following(due, p) {
			lost = append(lost, due.Counter)
			if len(lost) > api.MaxList {
				break search
			}
		}
		last, begun = p, true
	}
	if len(lost) > api.MaxList {
		return nil, api.ErrMany
	}
	return lost, api.OK
}

// packetError returns the error of a packet, or OK.
func packetError(p Packet) api.Errno {
	return common.First(common.Outside(p.Kind, 0, 255), common.Outside(p.Counter, 0, counters-1))
}

// packetOf returns the packet whose frame these bytes are, and whether they are one.
func packetOf(s []byte) (Packet, bool) {
	p, e := Decode([Size]byte(s))
	return p, e == api.OK
}

// withGap returns spans with one more behind them, if it is not empty.
func withGap(l []api.Span, gap api.Span) []api.Span {
	if gap.From == gap.To {
		return l
	}
	return append(l, gap)
}

// following returns a packet like p, but with the counter that follows the last one's.
func following(last, p Packet) Packet {
	p.Counter = (last.Counter + 1) % counters
	return p
}

// check returns the check of bytes with a factor and a modulus.
func check(s []byte, factor, modulus int) int {
	x := 1
	for b := range slices.Values(s) {
		x = (factor*x + int(b)) % modulus
	}
	return x
}
