package timing

import (
	"genlock/api"
	"genlock/common"
)

// Format is how samples, lines and fields are counted.
type Format struct {
	Samples  int
	Lines    int
	Fields   int
	Blank    int
	Sync     int
	Vertical int
	Cycle    int
}

// Position is where a tick is.
type Position struct {
	Frame  int
	Field  int
	Line   int
	Sample int
}

// limit is the least value of a number of a format, and what returns the number and its greatest value.
type limit struct {
	least int
	of    func(f Format) (n, most int)
}

// limits returns the limits of the numbers of a format. A greatest value depends only on numbers whose limits stand before its own.
func limits() []limit {
	return []limit{
		{2, func(f Format) (n, most int) { return f.Samples, MaxLine }},
		{2, func(f Format) (n, most int) { return f.Lines, MaxLine }},
		{1, func(f Format) (n, most int) { return f.Fields, 2 }},
		{1, func(f Format) (n, most int) { return f.Blank, f.Samples - 1 }},
		{1, func(f Format) (n, most int) { return f.Sync, f.Blank }},
		{1, func(f Format) (n, most int) { return f.Vertical, f.Lines / f.Fields }},
		{1, func(f Format) (n, most int) { return f.Cycle, MaxCycle }},
	}
}

// CheckFormat returns the first error of a format, or OK.
func CheckFormat(f Format) api.Errno {
	return common.FirstOf(limits(), func(l limit) api.Errno {
		n, most := l.of(f)
		return common.Outside(n, l.least, most)
	})
}

// At returns the position of a tick.
func At(f Format, tick int) (Position, api.Errno) {
	return measured(f, tick, func(_ Format, p Position) Position { return p })
}

// Tick returns the tick of a position.
func Tick(f Format, p Position) (int, api.Errno) {
	if e := positionError(f, p); e != api.OK {
		return 0, e
	}
	return f.tick(p), api.OK
}

// Row returns the row of a position.
func Row(f Format, p Position) (int, api.Errno) {
	if e := positionError(f, p); e != api.OK {
		return 0, e
	}
	return f.Fields*p.Line + p.Field, api.OK
}

// Phase returns the phase of a tick.
func Phase(f Format, tick int) (int, api.Errno) {
	return measured(f, tick, Format.phase)
}

// measured returns what a measure says of the position of a tick.
func measured[T any](f Format, tick int, measure func(Format, Position) T) (T, api.Errno) {
	if e := common.First(CheckFormat(f), timeError(tick)); e != api.OK {
		var nothing T
		return nothing, e
	}
	return measure(f, f.position(tick)), api.OK
}

// positionError returns the error of a format, then that of a position of it, or OK.
func positionError(f Format, p Position) api.Errno {
	if e := CheckFormat(f); e != api.OK { // such a format may have no fields, so that its lines cannot be shared out
		return e
	}
	return common.First(
		common.Outside(p.Field, 0, f.Fields-1),
		common.Outside(p.Line, 0, f.linesOf(p.Field)-1),
		common.Outside(p.Sample, 0, f.Samples-1),
		common.ErrorIf(p.Frame < 0, api.ErrRange),
		common.ErrorIf(p.Frame > api.MaxTime, api.ErrLarge), // the tick of a later frame could be too large for an int
		common.ErrorIf(f.tick(p) > api.MaxTime, api.ErrLarge),
	)
}

// linesOf returns how many lines a field has.
func (f Format) linesOf(field int) int {
	return (f.Lines + f.Fields - 1 - field) / f.Fields
}

// position returns the position of a tick.
func (f Format) position(tick int) Position {
	line := tick / f.Samples
	p := Position{Frame: line / f.Lines, Line: line % f.Lines, Sample: tick % f.Samples}
	if first := f.linesOf(0); p.Line >= first {
		p.Field = 1
		p.Line -= first
	}
	return p
}

// tick returns the tick of a position.
func (f Format) tick(p Position) int {
	line := p.Frame*f.Lines + p.Field*f.linesOf(0) + p.Line
	return line*f.Samples + p.Sample
}

// phase returns the phase at a position.
func (f Format) phase(p Position) int {
	return (p.Frame*f.Fields + p.Field) % f.Cycle
}
