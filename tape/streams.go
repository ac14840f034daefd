package tape

import (
	"slices"

	"genlock/api"
	"genlock/common"
	"genlock/picture"
)

// mark is what the stream of a reel begins with.
var mark = [4]byte{'R', 'E', 'E', 'L'}

// The first bytes of the record of a frame, and of the end.
const (
	frameByte = 70
	endByte   = 69
)

// The numbers of bytes of a reel's first number, of a record, and of each of the two numbers of a record.
const (
	firstSize  = 4
	recordSize = 5
	numberSize = 2
)

// The numbers of the sums of records.
const (
	sumFactor  = 263
	sumOffset  = 97
	sumModulus = 65521
)

// record is the record of a frame, or the end.
type record [recordSize]byte

// stream is bytes of which one part after the other is taken.
type stream struct {
	rest []byte
}

// Taped returns the stream of a reel.
func Taped(r Reel) ([]byte, api.Errno) {
	if e := CheckReel(r); e != api.OK {
		return nil, e
	}
	begin := mark
	s := append(begin[:], byte(len(r.Name)))
	s = append(s, r.Name...)
	s = common.AppendNumber(s, r.First, firstSize)
	for n, check := range r.Checks {
		frame := frameRecord(n, check)
		s = append(s, frame[:]...)
	}
	end := endRecord(r.Checks)
	return append(s, end[:]...), api.OK
}

// Read returns the reel of a stream.
func Read(s []byte) (Reel, api.Errno) {
	rest := &stream{s}
	r, e := readHead(rest)
	if e != api.OK {
		return Reel{}, e
	}
	r.Checks, e = readRecords(rest)
	if e = common.First(e, CheckReel(r)); e != api.OK {
		return Reel{}, e
	}
	return r, api.OK
}

// Rebuilt returns the reel of the frames of a stream that are right, and whether the stream is whole.
func Rebuilt(s []byte) (Reel, bool, api.Errno) {
	rest := &stream{s}
	r, e := readHead(rest)
	if e != api.OK {
		return Reel{}, false, e
	}
	checks, e := readRecords(rest)
	r.Checks = checks[:min(len(checks), api.MaxTime-r.First)]
	if len(r.Checks) == 0 {
		return Reel{}, false, api.ErrEmpty
	}
	return r, e == api.OK && len(r.Checks) == len(checks), api.OK
}

// readHead reads what stands before the records: a reel without frames.
func readHead(s *stream) (Reel, api.Errno) {
	begin, e := s.take(len(mark))
	if e != api.OK {
		return Reel{}, e
	}
	if [len(mark)]byte(begin) != mark {
		return Reel{}, api.ErrForm
	}
	length, e := s.take(1)
	if e != api.OK {
		return Reel{}, e
	}
	name, e := s.take(int(length[0]))
	if e = common.First(e, common.ErrorIf(!picture.IsName(string(name)), api.ErrForm)); e != api.OK {
		return Reel{}, e
	}
	first, e := s.take(firstSize)
	if e = common.First(e, common.ErrorIf(common.NumberOf(first) > api.MaxTime, api.ErrForm)); e != api.OK {
		return Reel{}, e
	}
	return Reel{Name: string(name), First: common.NumberOf(first)}, api.OK
}

// readRecords reads records up to the end, or to the first one that is not right; it returns the checks of those before, and the error of the stream there.
func readRecords(s *stream) ([]int, api.Errno) {
	var checks []int
	var e api.Errno
reading:
	for {
		var found record
		found, e = s.takeRecord(len(checks))
		switch {
		case e != api.OK:
			break reading
		case found[0] == endByte:
			e = common.First(
				common.ErrorIf(found != endRecord(checks), api.ErrCheck),
				common.ErrorIf(len(s.rest) > 0, api.ErrOver),
			)
			break reading
		case found != frameRecord(len(checks), found.first()):
			e = api.ErrCheck
			break reading
		}
		checks = append(checks, found.first())
	}
	return checks, e
}

// take returns the next bytes; ErrTorn if there are not so many.
func (s *stream) take(size int) ([]byte, api.Errno) {
	if len(s.rest) < size {
		return nil, api.ErrTorn
	}
	taken := s.rest[:size]
	s.rest = s.rest[size:]
	return taken, api.OK
}

// takeRecord returns the next record, behind n others, or the end. What its first byte tells comes before the other bytes have to be there.
func (s *stream) takeRecord(n int) (record, api.Errno) {
	kind, e := s.take(1)
	if e != api.OK {
		return record{}, e
	}
	isEnd := kind[0] == endByte
	e = common.First(
		common.ErrorIf(!isEnd && kind[0] != frameByte, api.ErrForm),
		common.ErrorIf(!isEnd && n == MaxFrames, api.ErrMany),
	)
	if e != api.OK {
		return record{}, e
	}
	numbers, e := s.take(recordSize - 1)
	if e != api.OK {
		return record{}, e
	}
	return record(slices.Concat(kind, numbers)), api.OK
}

// first returns the first number of a record.
func (r record) first() int {
	return common.NumberOf(r[1 : 1+numberSize])
}

// newRecord returns the record with a first byte and two numbers.
func newRecord(kind byte, first, second int) record {
	s := common.AppendNumber([]byte{kind}, first, numberSize)
	return record(common.AppendNumber(s, second, numberSize))
}

// frameRecord returns the record of the frame with an index.
func frameRecord(n, check int) record {
	return newRecord(frameByte, check, (sumFactor*(sumFactor*n+check)+sumOffset)%sumModulus)
}

// endRecord returns the end of frames with these checks.
func endRecord(checks []int) record {
	sum := 0
	for _, check := range checks {
		sum += check
	}
	return newRecord(endByte, len(checks), sum%sumModulus)
}
