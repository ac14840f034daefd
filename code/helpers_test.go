package code_test

import (
	"fmt"
	"math"
	"slices"
	"strings"
	"testing"

	"genlock/api"
	"genlock/code"
)

// The tests use the exported functions alone, so that they hold for every implementation of the chapter.

// results returns the results of a call as a list.
func results(l ...any) []any { return l }

// want compares the results of a call with the expected ones; nil and empty lists are equal.
func want(t *testing.T, what any, got []any, wanted ...any) {
	t.Helper()
	if g, w := fmt.Sprintf("%+v", got), fmt.Sprintf("%+v", wanted); g != w {
		t.Errorf("%+v: got %s, want %s", what, g, w)
	}
}

// wantError compares the error of a call, its last result, with the expected one; beside an error all other results are zero values.
func wantError(t *testing.T, what any, got []any, e api.Errno, zero ...any) {
	t.Helper()
	if e == api.OK {
		got, zero = got[len(got)-1:], nil
	}
	want(t, what, got, append(slices.Clone(zero), e)...)
}

// must returns a result that has no error.
func must[T any](t *testing.T) func(x T, e api.Errno) T {
	return func(x T, e api.Errno) T {
		t.Helper()
		if e != api.OK {
			t.Fatalf("error %d", e)
		}
		return x
	}
}

// given is an argument, and its error.
type given[T any] struct {
	v T
	e api.Errno
}

// firstError returns the first error of some, or OK.
func firstError(l ...api.Errno) api.Errno {
	for _, e := range l {
		if e != api.OK {
			return e
		}
	}
	return api.OK
}

// numbers are the least and the greatest number of a range, some outside of it, and their errors.
func numbers(low, high int, e api.Errno) []given[int] {
	return []given[int]{{low, api.OK}, {high, api.OK}, {low - 1, e}, {high + 1, e}, {math.MinInt, e}, {math.MaxInt, e}}
}

// dice are numbers that are the same in every run.
type dice uint64

func (d *dice) below(n int) int {
	*d = *d*6364136223846793005 + 1442695040888963407
	return int(uint64(*d) >> 33 % uint64(n))
}

// between returns a number from low to high; the bounds are more likely than the others.
func (d *dice) between(low, high int) int {
	switch d.below(8) {
	case 0:
		return low
	case 1:
		return high
	}
	return low + d.below(high-low+1)
}

// bytes returns n bytes from low to high.
func (d *dice) bytes(n, low, high int) []byte {
	l := make([]byte, n)
	for i := range l {
		l[i] = byte(d.between(low, high))
	}
	return l
}

// The four rates.
var (
	at24   = code.Rate{Frames: 24}
	at25   = code.Rate{Frames: 25}
	at30   = code.Rate{Frames: 30}
	drop30 = code.Rate{Frames: 30, Drop: true}
)

// rates are all rates.
func rates() []code.Rate {
	return []code.Rate{at24, at25, at30, drop30}
}

// givenRates are the rates, and what is none.
func givenRates() []given[code.Rate] {
	l := []given[code.Rate]{{code.Rate{Frames: 24, Drop: true}, api.ErrConflict}, {code.Rate{Frames: 25, Drop: true}, api.ErrConflict}}
	for _, r := range rates() {
		l = append(l, given[code.Rate]{r, api.OK})
	}
	for _, n := range []int{0, -1, 1, 23, 26, 29, 31, 48, 50, 60, -24, -30, 158, 1 << 32, 1<<32 + 30, math.MinInt, math.MaxInt} {
		l = append(l, given[code.Rate]{code.Rate{Frames: n}, api.ErrKind}, given[code.Rate]{code.Rate{Frames: n, Drop: true}, api.ErrKind})
	}
	return l
}

// label returns the label of four numbers.
func label(hours, minutes, seconds, frames int) code.Label {
	return code.Label{Hours: hours, Minutes: minutes, Seconds: seconds, Frames: frames}
}

// givenLabels are labels of a rate, and what is none of it.
func givenLabels(r code.Rate) []given[code.Label] {
	none := api.OK
	if r.Drop {
		none = api.ErrNone
	}
	l := []given[code.Label]{
		{label(0, 1, 0, 0), none}, {label(0, 1, 0, 1), none}, {label(0, 1, 0, 2), api.OK}, {label(0, 1, 1, 0), api.OK}, {label(0, 1, 59, 1), api.OK},
		{label(0, 0, 0, 0), api.OK}, {label(23, 0, 0, 1), api.OK}, {label(5, 10, 0, 0), api.OK}, {label(5, 50, 0, 1), api.OK}, {label(5, 11, 0, 1), none}, {label(23, 59, 0, 0), none}, {label(10, 9, 0, 1), none},
		{label(24, 60, 60, r.Frames), api.ErrRange}, {label(0, 1, 60, 0), api.ErrRange}, {label(24, 1, 0, 0), api.ErrRange}, {label(0, 61, 0, 0), api.ErrRange}, {label(0, 1, 0, -1), api.ErrRange}, {label(0, -1, 0, 0), api.ErrRange},
	}
	for _, n := range numbers(0, 23, api.ErrRange) {
		l = append(l, given[code.Label]{label(n.v, 10, 0, 0), n.e}, given[code.Label]{label(n.v, 3, 4, 5), n.e})
	}
	for _, n := range numbers(0, 59, api.ErrRange) {
		l = append(l, given[code.Label]{label(1, n.v, 3, 4), n.e}, given[code.Label]{label(1, 2, n.v, 4), n.e})
	}
	for _, n := range numbers(0, r.Frames-1, api.ErrRange) {
		l = append(l, given[code.Label]{label(1, 2, 3, n.v), n.e}, given[code.Label]{label(23, 59, 59, n.v), n.e})
	}
	return l
}

// givenPlaces are rates and labels, and their errors.
func givenPlaces() []given[code.Stamp] {
	var l []given[code.Stamp]
	for _, r := range givenRates() {
		for _, x := range givenLabels(r.v) {
			l = append(l, given[code.Stamp]{code.Stamp{Rate: r.v, Label: x.v}, firstError(r.e, x.e)})
		}
	}
	return l
}

// givenStamps are stamps, and what is none.
func givenStamps() []given[code.Stamp] {
	var l []given[code.Stamp]
	for i, x := range givenPlaces() {
		users := numbers(0, 65535, api.ErrRange)
		for _, user := range []given[int]{users[i%2], users[2+i%4]} {
			s := x.v
			s.User = user.v
			l = append(l, given[code.Stamp]{s, firstError(x.e, user.e)})
		}
	}
	return l
}

// example is the stamp of the document's example 3, and exampleWord its word.
var (
	example     = code.Stamp{Rate: drop30, Label: label(1, 2, 3, 4), User: 258}
	exampleWord = [10]byte{4, 3, 2, 1, 158, 1, 2, 153, 63, 253}
)

// label returns any label of a rate that is not dropped.
func (d *dice) label(r code.Rate) code.Label {
	l := label(d.between(0, 23), d.between(0, 59), d.between(0, 59), d.between(0, r.Frames-1))
	if r.Drop && l.Minutes%10 > 0 && l.Seconds == 0 && l.Frames < 2 {
		l.Frames += 2
	}
	return l
}

// stamp returns any stamp.
func (d *dice) stamp() code.Stamp {
	r := rates()[d.below(4)]
	return code.Stamp{Rate: r, Label: d.label(r), User: d.between(0, 65535)}
}

// packed returns a word with these bytes up to the parity, which is changed by exclusive or.
func packed(head [7]byte, change byte) [10]byte {
	w := [10]byte{8: 63, 9: 253}
	copy(w[:], head[:])
	w[7] = change
	for _, b := range head {
		w[7] ^= b
	}
	return w
}

// wordOf returns the word of a stamp, as the chapter defines it.
func wordOf(s code.Stamp) [10]byte {
	digits := func(n int) byte { return byte(n/10*16 + n%10) }
	rate := s.Rate.Frames
	if s.Rate.Drop {
		rate += 128
	}
	l := s.Label
	return packed([7]byte{digits(l.Frames), digits(l.Seconds), digits(l.Minutes), digits(l.Hours), byte(rate), byte(s.User / 256), byte(s.User % 256)}, 0)
}

// joined returns words, one after the other.
func joined(l ...code.Stamp) []byte {
	var s []byte
	for _, x := range l {
		w := wordOf(x)
		s = append(s, w[:]...)
	}
	return s
}

// givenStreams are lists of bytes, and their errors.
func givenStreams() []given[[]byte] {
	return []given[[]byte]{{nil, api.OK}, {[]byte{}, api.OK}, {[]byte{0}, api.OK}, {make([]byte, 4000), api.OK}, {make([]byte, 4001), api.ErrMany}, {make([]byte, 100000), api.ErrMany}}
}

// givenCadences are cadences, and what is none.
func givenCadences() []given[[]int] {
	l := []given[[]int]{
		{nil, api.ErrEmpty}, {[]int{}, api.ErrEmpty}, {[]int{2, 3}, api.OK}, {[]int{1, 2, 3, 4, 1, 2, 3, 4}, api.OK}, {[]int{4, 4, 4, 4, 4, 4, 4, 4}, api.OK},
		{make([]int, 9), api.ErrMany}, {[]int{1, 2, 3, 4, 1, 2, 3, 4, 1}, api.ErrMany}, {make([]int, 8), api.ErrRange}, {[]int{1, 2, 0}, api.ErrRange}, {[]int{5, 1}, api.ErrRange}, {[]int{1, 1, 1, 1, 1, 1, 1, -1}, api.ErrRange},
	}
	for _, n := range numbers(1, 4, api.ErrRange) {
		l = append(l, given[[]int]{[]int{n.v}, n.e}, given[[]int]{[]int{1, 2, n.v, 3}, n.e})
	}
	return l
}

// cadence returns any cadence.
func (d *dice) cadence() []int {
	l := make([]int, d.between(1, 8))
	for i := range l {
		l[i] = d.between(1, 4)
	}
	return l
}

// caption returns a caption of these numbers.
func caption(from, to, row, column int, text string) code.Caption {
	return code.Caption{Show: api.Span{From: from, To: to}, Row: row, Column: column, Text: text}
}

// exampleCaptions are the captions of the document's example 6.
func exampleCaptions() []code.Caption {
	return []code.Caption{caption(5, 10, 1, 3, "AB"), caption(10, 12, 1, 4, "C")}
}

// givenCaptions are lists of captions, and their errors.
func givenCaptions() []given[[]code.Caption] {
	var many []code.Caption
	for i := range 32 {
		many = append(many, caption(0, 1, i%8, 4*(i/8), "abcd"))
	}
	broken := slices.Clone(many)
	broken[3].Row = 8
	l := []given[[]code.Caption]{{nil, api.OK}, {exampleCaptions(), api.OK}, {many, api.OK}, {append(slices.Clone(many), caption(1, 2, 0, 0, "x")), api.ErrMany}, {make([]code.Caption, 33), api.ErrMany}, {append(broken, many[0]), api.ErrMany}, {broken, api.ErrRange}, {make([]code.Caption, 32), api.ErrSpan}}
	add := func(e api.Errno, c ...code.Caption) { l = append(l, given[[]code.Caption]{c, e}) }
	a := caption(5, 10, 1, 3, "AB")
	for _, x := range givenSpans() {
		c := a
		c.Show = x.v
		add(x.e, c)
		add(firstError(x.e, api.ErrRange), a, code.Caption{Show: x.v, Row: 8})
		add(x.e, a, caption(20, 30, 1, 3, "AB"), code.Caption{Show: x.v, Row: 2, Text: "x"})
	}
	for _, n := range numbers(0, 7, api.ErrRange) {
		add(n.e, caption(5, 10, n.v, 3, "AB"))
		add(firstError(n.e, api.ErrEmpty), caption(5, 10, n.v, 3, ""))
	}
	for _, n := range numbers(0, 31, api.ErrRange) {
		add(n.e, caption(5, 10, 1, n.v, "A"))
		add(firstError(n.e, api.ErrEmpty), caption(5, 10, 1, n.v, ""))
		add(api.ErrRange, caption(5, 10, 8, n.v, ""))
	}
	for at := range 32 {
		add(api.OK, caption(5, 10, 1, at, strings.Repeat("x", 32-at)))
		add(api.ErrLong, caption(5, 10, 1, at, strings.Repeat("x", 33-at)))
		add(api.ErrLong, caption(5, 10, 1, at, strings.Repeat("\x00", 33-at)))
		add(api.ErrLong, caption(5, 10, 1, at, strings.Repeat("x", 70000)))
	}
	for b := range 256 {
		e := api.ErrForm
		if b >= 32 && b <= 126 {
			e = api.OK
		}
		add(e, caption(5, 10, 1, 3, string([]byte{byte(b)})))
		add(e, caption(5, 10, 1, 3, string([]byte{'x', byte(b)})))
		add(e, caption(5, 10, 1, 3, string([]byte{byte(b), 'x', 'y'})))
	}
	add(api.ErrForm, a, caption(5, 10, 1, 3, "A\n"))
	add(api.ErrForm, a, caption(5, 10, 1, 3, "\u00e9"))
	add(api.ErrConflict, a, a)
	add(api.ErrConflict, a, a, code.Caption{})
	add(api.ErrSpan, a, code.Caption{}, a)
	return l
}

// givenSpans are spans of captions, and what is none.
func givenSpans() []given[api.Span] {
	return []given[api.Span]{
		{api.Span{From: 0, To: 1}, api.OK}, {api.Span{From: 0, To: 10000000}, api.OK}, {api.Span{From: 9999999, To: 10000000}, api.OK},
		{api.Span{}, api.ErrSpan}, {api.Span{From: 5, To: 5}, api.ErrSpan}, {api.Span{From: 6, To: 5}, api.ErrSpan}, {api.Span{From: -1, To: 5}, api.ErrSpan}, {api.Span{From: 10000000, To: 10000000}, api.ErrSpan}, {api.Span{From: 0, To: 10000001}, api.ErrSpan}, {api.Span{From: 10000000, To: 10000001}, api.ErrSpan}, {api.Span{From: math.MinInt, To: math.MaxInt}, api.ErrSpan}, {api.Span{From: math.MaxInt, To: math.MinInt}, api.ErrSpan},
	}
}

// share reports whether two captions are both shown at a frame, and have a column of one row in common.
func share(a, b code.Caption) bool {
	for frame := a.Show.From; frame < a.Show.To; frame++ {
		if frame < b.Show.From || frame >= b.Show.To || a.Row != b.Row {
			continue
		}
		for column := a.Column; column < a.Column+len(a.Text); column++ {
			if column >= b.Column && column < b.Column+len(b.Text) {
				return true
			}
		}
	}
	return false
}

// caption returns any caption near the beginning, mostly in few rows and with few bytes.
func (d *dice) caption() code.Caption {
	from := d.between(0, 30)
	c := caption(from, from+1+d.below(8), d.between(0, 7), d.between(0, 31), "")
	if d.below(2) == 0 {
		c.Row = d.below(2)
	}
	most := min(32-c.Column, []int{2, 6, 32}[d.below(3)])
	c.Text = string(d.bytes(1+d.below(most), 'a', 'c'))
	switch d.below(8) {
	case 0:
		c.Text = strings.Repeat(" ", len(c.Text))
	case 1:
		c.Text = string(d.bytes(len(c.Text), 32, 126))
	}
	return c
}

// captions returns up to n captions without a conflict.
func (d *dice) captions(n int) []code.Caption {
	var l []code.Caption
	for range n {
		c := d.caption()
		if d.below(4) == 0 && len(l) > 0 { // one that goes on where another one ends
			before := l[d.below(len(l))]
			c = caption(before.Show.To, before.Show.To+1+d.below(4), before.Row, before.Column, before.Text)
		}
		if !slices.ContainsFunc(l, func(x code.Caption) bool { return share(x, c) }) {
			l = append(l, c)
		}
	}
	return l
}

// drawn returns the screen at a frame, as the chapter defines it.
func drawn(l []code.Caption, frame int) [8]string {
	var rows [8]string
	for row := range rows {
		for column := range 32 {
			b := byte(' ')
			for _, c := range l {
				if frame >= c.Show.From && frame < c.Show.To && c.Row == row && column >= c.Column && column < c.Column+len(c.Text) {
					b = c.Text[column-c.Column]
				}
			}
			rows[row] += string(rune(b))
		}
	}
	return rows
}

// count returns the number of bits of a byte.
func count(b byte) int {
	n := 0
	for ; b > 0; b /= 2 {
		n += int(b % 2)
	}
	return n
}
