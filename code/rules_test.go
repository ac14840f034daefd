package code_test

import (
	"math"
	"slices"
	"strings"
	"testing"

	"genlock/api"
	"genlock/code"
)

// The limits of the chapter.
func TestLimits(t *testing.T) {
	want(t, "limits", results(code.Size, code.MaxUser, code.MaxBytes, code.MaxRepeats, code.MaxRepeat, code.MaxFrames, code.Rows, code.Columns, code.MaxCaptions), 10, 65535, 4000, 8, 4, 256, 8, 32, 32)
}

// clobber changes all elements of a list, and what follows them in its memory.
func clobber[T any](l []T, x T) {
	for i := range l {
		l[i] = x
	}
	_ = append(l, x)
}

// spare returns a list with free memory behind it.
func spare[T any](l []T) []T {
	return append(make([]T, 0, 60), l...)
}

// kept are arguments of all functions.
type kept struct {
	stream   []byte
	stamps   []code.Stamp
	repeats  []int
	pulled   [][2]int
	captions []code.Caption
	heard    []byte
}

// arguments returns new ones that have a result in all functions.
func arguments() kept {
	return kept{
		stream:   spare(joined(example, example)),
		stamps:   spare([]code.Stamp{example, example, example}),
		repeats:  spare([]int{2, 3}),
		pulled:   spare([][2]int{{0, 0}, {1, 1}, {1, 2}}),
		captions: spare(exampleCaptions()),
		heard:    spare([]byte{65, 193, 66}),
	}
}

// all returns the lists of the results of all functions.
func all(t *testing.T, k kept) (streams map[string][]byte, indices map[string][]int, stamps []code.Stamp, pulled [][2]int, rest []any) {
	t.Helper()
	streams, indices = map[string][]byte{}, map[string][]int{}
	var e api.Errno
	streams["Reversed"] = must[[]byte](t)(code.Reversed(k.stream))
	streams["Sent"] = must[[]byte](t)(code.Sent("AB"))
	stamps, indices["Found"], e = code.Found(k.stream)
	want(t, "Found", results(e), api.OK)
	indices["Jumps"] = must[[]int](t)(code.Jumps(k.stamps))
	indices["Changes"] = must[[]int](t)(code.Changes(k.captions))
	indices["Safe"] = must[[]int](t)(code.Safe(k.captions, 3, 15))
	text, wrong, e := code.Heard(k.heard)
	want(t, "Heard", results(text, e), "?A?", api.OK)
	indices["Heard"] = wrong
	pulled = must[[][2]int](t)(code.Pulled(k.repeats, 4))
	rest = results(must[int](t)(code.Undone(k.repeats, k.pulled)), must[[8]string](t)(code.Shown(k.captions, 5)), code.CheckCadence(k.repeats), code.CheckCaptions(k.captions))
	return streams, indices, stamps, pulled, rest
}

// Arguments are neither changed nor kept, and results share no memory with them or with each other.
func TestMemory(t *testing.T) {
	k := arguments()
	first := results(all(t, k))
	for range 2 {
		streams, indices, stamps, pulled, rest := all(t, k)
		want(t, "results", results(streams, indices, stamps, pulled, rest), first...)
		if len(streams) != 2 || len(indices) != 5 || len(stamps) != 2 || len(pulled) != 5 {
			t.Errorf("%v, %v, %v, %v", streams, indices, stamps, pulled)
		}
		for _, l := range streams {
			clobber(l, 77)
		}
		for _, l := range indices {
			clobber(l, 77)
		}
		clobber(stamps, code.Stamp{User: 77})
		clobber(pulled, [2]int{77, 77})
		want(t, "arguments", results(k), arguments())
		want(t, "behind them", results(k.stream[:60][20:], k.stamps[:60][3:], k.repeats[:60][2:], k.pulled[:60][3:], k.captions[:60][2:], k.heard[:60][3:]), make([]byte, 40), make([]code.Stamp, 57), make([]int, 58), make([][2]int, 57), make([]code.Caption, 58), make([]byte, 57))
	}
	streams, indices, stamps, pulled, rest := all(t, k)
	clobber(k.stream, 77)
	clobber(k.stamps, code.Stamp{})
	clobber(k.repeats, 77)
	clobber(k.pulled, [2]int{77, 77})
	clobber(k.captions, code.Caption{})
	clobber(k.heard, 77)
	want(t, "results after a change of the arguments", results(streams, indices, stamps, pulled, rest), results(all(t, arguments()))...)
}

// strange are numbers of all kinds.
func strange() []int {
	return []int{math.MinInt, math.MinInt + 1, -1 << 32, -10000001, -30, -1, 0, 1, 2, 3, 7, 8, 10, 24, 25, 30, 31, 32, 59, 60, 256, 65535, 10000000, 1 << 32, 1 << 61, math.MaxInt - 1, math.MaxInt}
}

// P1: no function panics, for strange arguments.
func TestAllArguments(t *testing.T) {
	d := dice(30)
	some := func() int { return strange()[d.below(len(strange()))] }
	for range 20000 {
		r := code.Rate{Frames: some(), Drop: d.below(2) == 0}
		if d.below(2) == 0 {
			r = rates()[d.below(4)]
		}
		l := label(some(), some(), some(), some())
		s := code.Stamp{Rate: r, Label: l, User: some()}
		code.CheckRate(r)
		code.Day(r)
		code.CheckLabel(r, l)
		code.Frame(r, l)
		code.LabelOf(r, some())
		code.Added(r, l, some())
		code.CheckStamp(s)
		code.Written(s)
		code.Jumps([]code.Stamp{example, s})
		code.Print(s)
		code.Read([10]byte(d.bytes(10, 0, 255)))
		stream := d.bytes(d.below(30), 0, 255)
		code.Reversed(stream)
		code.Found(stream)
		code.Heard(stream)
		code.Sent(string(stream))
	}
	for range 5000 {
		repeats := []int{some(), some(), some(), d.between(1, 4), d.between(1, 4)}[d.below(6):]
		pulled := [][2]int{{some(), some()}, {some(), some()}, {0, 0}}[d.below(4):]
		code.CheckCadence(repeats)
		code.Pulled(repeats, some())
		code.Undone(repeats, pulled)
		captions := d.captions(4)
		for i := range captions {
			c := &captions[i]
			if d.below(2) == 0 {
				*[]*int{&c.Show.From, &c.Show.To, &c.Row, &c.Column}[d.below(4)] = some()
			}
			if d.below(4) == 0 {
				c.Text = []string{"", "\xff", strings.Repeat("x", 33), "\n"}[d.below(4)]
			}
		}
		code.CheckCaptions(captions)
		code.Shown(captions, some())
		code.Changes(captions)
		code.Safe(captions, some(), some())
	}
}

// The same arguments have the same results.
func TestSameResults(t *testing.T) {
	d := dice(31)
	for range 100 {
		l := d.captions(32)
		frames, e := code.Changes(l)
		_, s := d.rows(t, 5)
		stamps, at, wrong := code.Found(s)
		for range 5 {
			want(t, l, results(code.Changes(l)), frames, e)
			want(t, s, results(code.Found(s)), stamps, at, wrong)
		}
	}
}

// P1: texts without a form.
func TestAllTexts(t *testing.T) {
	d := dice(32)
	for range 20000 {
		s := []byte("01:02:03;04 at 30 258")
		for range 1 + d.below(4) {
			s[d.below(len(s))] = " \n:;at0123456789\xff\x80-"[d.below(19)]
		}
		s = slices.Concat(s[:d.below(len(s)+1)], s[d.below(len(s)+1):])
		stamp, e := code.Parse(string(s))
		switch {
		case e == api.OK:
			want(t, string(s), results(code.Print(stamp)), string(s), api.OK)
		case stamp != code.Stamp{}:
			t.Errorf("%q: got %+v beside the error %d", s, stamp, e)
		}
	}
}
