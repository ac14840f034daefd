package code

import (
	"maps"
	"slices"
	"strings"

	"genlock/api"
	"genlock/common"
)

// The greatest margins of rows and of columns.
const (
	maxRowMargin    = 3
	maxColumnMargin = 15
)

// Caption is a text on the screen from a frame on, before another one.
type Caption struct {
	Show   api.Span
	Row    int
	Column int
	Text   string
}

// CheckCaptions returns the first error of captions, or OK.
func CheckCaptions(l []Caption) api.Errno {
	if len(l) > MaxCaptions {
		return api.ErrMany
	}
	for i, c := range l {
		if e := common.First(c.check(), conflictError(l[:i], c, Caption.conflicts)); e != api.OK {
			return e
		}
	}
	return api.OK
}

// Shown returns the rows of the screen at a frame.
func Shown(l []Caption, frame int) ([Rows]string, api.Errno) {
	if e := common.First(CheckCaptions(l), frameError(frame)); e != api.OK {
		return [Rows]string{}, e
	}
	return screen(l, frame), api.OK
}

// Changes returns the frames at which the screen changes.
func Changes(l []Caption) ([]int, api.Errno) {
	if e := CheckCaptions(l); e != api.OK {
		return nil, e
	}
	return slices.DeleteFunc(ends(l), func(frame int) bool {
		return screen(l, frame) == screen(l, frame-1)
	}), api.OK
}

// Safe returns the indices of captions that are not within margins.
func Safe(l []Caption, rows, columns int) ([]int, api.Errno) {
	e := common.First(
		CheckCaptions(l),
		common.Outside(rows, 0, maxRowMargin),
		common.Outside(columns, 0, maxColumnMargin),
	)
	if e != api.OK {
		return nil, e
	}
	return common.Indices(l, func(_ int, c Caption) bool {
		return !isWithin(c.rows(), rows, Rows) || !isWithin(c.columns(), columns, Columns)
	}), api.OK
}

// check returns the error of a caption alone, or OK.
func (c Caption) check() api.Errno {
	return common.First(
		common.SpanError(c.Show, api.MaxTime),
		common.Outside(c.Row, 0, Rows-1),
		common.Outside(c.Column, 0, Columns-1),
		common.ErrorIf(c.Text == "", api.ErrEmpty),
		common.ErrorIf(c.columns().To > Columns, api.ErrLong),
		formError(c.Text, ' ', '~'),
	)
}

// conflictError returns ErrConflict if one of some things conflicts with another one, otherwise OK.
func conflictError[T any](l []T, other T, conflict func(a, b T) bool) api.Errno {
	return common.ErrorIf(slices.ContainsFunc(l, func(x T) bool { return conflict(x, other) }), api.ErrConflict)
}

// conflicts reports whether two captions conflict.
func (c Caption) conflicts(d Caption) bool {
	return c.Row == d.Row && overlap(c.Show, d.Show) && overlap(c.columns(), d.columns())
}

// rows returns the rows of a caption, of which there is one.
func (c Caption) rows() api.Span {
	return api.Span{From: c.Row, To: c.Row + 1}
}

// columns returns the columns of a caption.
func (c Caption) columns() api.Span {
	return api.Span{From: c.Column, To: c.Column + len(c.Text)}
}

// over returns a row with a caption in it.
func (c Caption) over(row string) string {
	changed := []byte(row)
	copy(changed[c.Column:], c.Text)
	return string(changed)
}

// screen returns the rows of the screen at a frame.
func screen(l []Caption, frame int) [Rows]string {
	var rows [Rows]string
	for i := range rows {
		rows[i] = strings.Repeat(" ", Columns)
	}
	for _, c := range l {
		if c.Show.From <= frame && frame < c.Show.To {
			rows[c.Row] = c.over(rows[c.Row])
		}
	}
	return rows
}

// ends returns the frames at which captions begin or end, ascending.
func ends(l []Caption) []int {
	frames := map[int]bool{}
	for _, c := range l {
		frames[c.Show.From] = true
		frames[c.Show.To] = true
	}
	return slices.Sorted(maps.Keys(frames))
}

// overlap reports whether two spans that are not empty have something in common.
func overlap(a, b api.Span) bool {
	return a.From < b.To && b.From < a.To
}

// isWithin reports whether a span is within a margin of n things.
func isWithin(s api.Span, margin, n int) bool {
	return s.From >= margin && s.To <= n-margin
}
