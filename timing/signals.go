package timing

import (
	"genlock/api"
	"genlock/common"
)

// Blanked reports whether a tick is blanked.
func Blanked(f Format, tick int) (bool, api.Errno) {
	return measured(f, tick, Format.isBlanked)
}

// InSync reports whether a tick is sync.
func InSync(f Format, tick int) (bool, api.Errno) {
	return measured(f, tick, Format.isSync)
}

// Vertical returns the first vertical interval from a tick on.
func Vertical(f Format, tick int) (api.Span, api.Errno) {
	begin, e := measured(f, tick, Format.nextField)
	if e != api.OK {
		return api.Span{}, e
	}
	from := f.tick(begin)
	interval := api.Span{From: from, To: from + f.Vertical*f.Samples}
	if interval.To > api.MaxTime {
		return api.Span{}, api.ErrNone
	}
	return interval, api.OK
}

// Signal returns the signal at so many ticks from one on.
func Signal(f Format, tick, n int) ([]float32, api.Errno) {
	e := common.First(
		CheckFormat(f),
		timeError(tick),
		common.Outside(n, 0, MaxSignal),
		common.ErrorIf(tick+n-1 > api.MaxTime, api.ErrLarge),
	)
	if e != api.OK {
		return nil, e
	}
	signal := make([]float32, n)
	for i := range n {
		signal[i] = f.signal(f.position(tick + i))
	}
	return signal, api.OK
}

// isBlanked reports whether a position is blanked.
func (f Format) isBlanked(p Position) bool {
	return p.Sample < f.Blank || p.Line < f.Vertical
}

// isSync reports whether a position is sync.
func (f Format) isSync(p Position) bool {
	return p.Sample < f.Sync
}

// signal returns the signal at a position.
func (f Format) signal(p Position) float32 {
	switch {
	case f.isSync(p):
		return SyncLevel
	case f.isBlanked(p):
		return 0
	default:
		return White
	}
}

// nextField returns where the first field begins that begins at a position or after it.
func (f Format) nextField(p Position) Position {
	begin := Position{Frame: p.Frame, Field: p.Field}
	switch {
	case p == begin:
		return begin
	case begin.Field+1 < f.Fields:
		return Position{Frame: p.Frame, Field: p.Field + 1}
	default:
		return Position{Frame: p.Frame + 1}
	}
}
