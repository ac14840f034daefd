package tape_test

import (
	"fmt"
	"math"
	"slices"
	"strings"
	"testing"

	"genlock/api"
	"genlock/tape"
)

// The tests use the exported functions alone, so that they hold for every implementation of the chapter.

// results returns the results of a call as a list.
func results(l ...any) []any { return l }

// want compares the results of a call with the expected ones; nil and empty lists are equal.
func want(t *testing.T, what any, got []any, wanted ...any) {
	t.Helper()
	if g, w := fmt.Sprintf("%+v", got), fmt.Sprintf("%+v", wanted); g != w {
		t.Errorf("%+v: got %s, want %s", what, g, w)
	}
}

// wantError compares the error of a call, its last result, with the expected one; beside an error all other results are zero values.
func wantError(t *testing.T, what any, got []any, e api.Errno, zero ...any) {
	t.Helper()
	if e == api.OK {
		got, zero = got[len(got)-1:], nil
	}
	want(t, what, got, append(slices.Clone(zero), e)...)
}

// must returns a result that has no error.
func must[T any](t *testing.T) func(x T, e api.Errno) T {
	return func(x T, e api.Errno) T {
		t.Helper()
		if e != api.OK {
			t.Fatalf("error %d", e)
		}
		return x
	}
}

// given is an argument, and its error.
type given[T any] struct {
	v T
	e api.Errno
}

// firstError returns the first error of some, or OK.
func firstError(l ...api.Errno) api.Errno {
	for _, e := range l {
		if e != api.OK {
			return e
		}
	}
	return api.OK
}

// numbers are the least and the greatest number of a range, some outside of it, and their errors.
func numbers(low, high int, e api.Errno) []given[int] {
	return []given[int]{{low, api.OK}, {high, api.OK}, {low - 1, e}, {high + 1, e}, {math.MinInt, e}, {math.MaxInt, e}}
}

// dice are numbers that are the same in every run.
type dice uint64

func (d *dice) below(n int) int {
	*d = *d*6364136223846793005 + 1442695040888963407
	return int(uint64(*d) >> 33 % uint64(n))
}

// between returns a number from low to high; the bounds are more likely than the others.
func (d *dice) between(low, high int) int {
	switch d.below(8) {
	case 0:
		return low
	case 1:
		return high
	}
	return low + d.below(high-low+1)
}

// reel returns a reel.
func reel(name string, first int, checks ...int) tape.Reel {
	return tape.Reel{Name: name, First: first, Checks: checks}
}

// edit returns an edit.
func edit(reel string, in, out, fade, sound int) tape.Edit {
	return tape.Edit{Reel: reel, In: in, Out: out, Fade: fade, Sound: sound}
}

// edits returns a list of edits.
func edits(l ...tape.Edit) []tape.Edit { return l }

// take returns a take with the part num / den.
func take(reel string, frame, num, den int) tape.Take {
	return tape.Take{Reel: reel, Frame: frame, Part: api.Ratio{Num: num, Den: den}}
}

// span returns a span.
func span(from, to int) api.Span { return api.Span{From: from, To: to} }

// exampleReels are the reels of the document's examples.
func exampleReels() []tape.Reel {
	return []tape.Reel{reel("a", 10, 0, 100, 200, 300, 400, 500), reel("b", 50, 40, 50, 60, 70)}
}

// exampleEdits is the list L of the examples, with b 51 53 in place of b 50 53.
func exampleEdits() []tape.Edit {
	return edits(edit("a", 11, 14, 0, 0), edit("b", 51, 53, 1, -1), edit("a", 15, 16, 0, 0))
}

// givenNames are names of reels, and what is none.
func givenNames() []given[string] {
	long := strings.Repeat("x", 24)
	l := []given[string]{{"a", api.OK}, {"Z9_", api.OK}, {long, api.OK}}
	for _, s := range []string{"", long + "x", "1a", "_a", "a b", "a-", "a\n", "\u00e9", "a\x00", "a\xff", strings.Repeat("x", 70000)} {
		l = append(l, given[string]{s, api.ErrName})
	}
	return l
}

// givenReels are reels, and what is none.
func givenReels() []given[tape.Reel] {
	l := []given[tape.Reel]{{tape.Reel{}, api.ErrName}, {reel("a", 0), api.ErrEmpty}, {reel("a", -1), api.ErrRange}}
	add := func(e api.Errno, r tape.Reel) { l = append(l, given[tape.Reel]{r, e}) }
	for _, n := range givenNames() {
		add(n.e, reel(n.v, 3, 1, 2))
		add(firstError(n.e, api.ErrRange), reel(n.v, -1))
		add(firstError(n.e, api.ErrEmpty), reel(n.v, 3))
	}
	for _, n := range numbers(0, 10000000, api.ErrRange) {
		add(firstError(n.e, api.ErrEmpty), reel("a", n.v))
		add(firstError(n.e, api.ErrMany), reel("a", n.v, make([]int, 257)...))
		add(firstError(n.e, api.ErrRange), reel("a", n.v, 0, -1))
	}
	add(api.OK, reel("a", 0, make([]int, 256)...))
	add(api.ErrMany, reel("a", 0, slices.Repeat([]int{-1}, 257)...))
	for _, n := range numbers(0, 65535, api.ErrRange) {
		add(n.e, reel("a", 7, n.v))
		add(n.e, reel("a", 7, 0, 65535, n.v))
		add(firstError(n.e, api.ErrLarge), reel("a", 9999999, 5, n.v))
	}
	add(api.OK, reel("a", 9999999, 5))
	add(api.OK, reel("a", 9999744, make([]int, 256)...))
	add(api.ErrLarge, reel("a", 9999745, make([]int, 256)...))
	add(api.ErrLarge, reel("a", 10000000, 5))
	return l
}

// givenLists are lists of reels, and their errors.
func givenLists() []given[[]tape.Reel] {
	var eight []tape.Reel
	for i := range 8 {
		eight = append(eight, reel(string(rune('a'+i)), i, 7))
	}
	nine := append(slices.Clone(eight), reel("i", 0, 1))
	twice := slices.Clone(eight)
	twice[7].Name = "a"
	l := []given[[]tape.Reel]{
		{nil, api.OK}, {exampleReels(), api.OK}, {eight, api.OK}, {nine, api.ErrMany}, {make([]tape.Reel, 9), api.ErrMany}, {make([]tape.Reel, 8), api.ErrName}, {twice, api.ErrTwice},
		{[]tape.Reel{reel("a", 0, 1), reel("a", 0, 1), {}}, api.ErrTwice}, {[]tape.Reel{reel("a", 0, 1), {}, reel("a", 0, 1)}, api.ErrName}, {[]tape.Reel{reel("a", 0, 1), reel("a", 0)}, api.ErrEmpty}, {[]tape.Reel{reel("a", 0, 1), reel("A", 0, 1), reel("b", 0, 1), reel("A", 5, 1)}, api.ErrTwice},
	}
	for _, r := range givenReels() {
		l = append(l, given[[]tape.Reel]{[]tape.Reel{reel("other", 0, 1), r.v}, r.e}, given[[]tape.Reel]{[]tape.Reel{r.v, reel("other", 0)}, firstError(r.e, api.ErrEmpty)})
	}
	return l
}

// find returns the reel with a name, and whether there is one.
func find(reels []tape.Reel, name string) (tape.Reel, bool) {
	for _, r := range reels {
		if r.Name == name {
			return r, true
		}
	}
	return tape.Reel{}, false
}

// has reports whether there is a frame of a reel.
func has(reels []tape.Reel, name string, frame int) bool {
	r, known := find(reels, name)
	return known && frame >= r.First && frame <= r.First+len(r.Checks)-1
}

// begins returns the beginnings of edits, those of their sounds, and the length of the list.
func begins(l []tape.Edit) (seen, heard []int, length int) {
	for _, x := range l {
		seen, heard = append(seen, length), append(heard, length+x.Sound)
		length += x.Out - x.In
	}
	return seen, heard, length
}

// editsError returns the error of a list, as the chapter names it; the reels have no error.
func editsError(reels []tape.Reel, l []tape.Edit) api.Errno {
	if len(l) > 16 {
		return api.ErrMany
	}
	for i, x := range l {
		_, known := find(reels, x.Reel)
		switch {
		case !known:
			return api.ErrUnknown
		case x.In >= x.Out || !has(reels, x.Reel, x.In) || !has(reels, x.Reel, x.Out-1):
			return api.ErrSpan
		case x.Fade < 0 || x.Fade > x.Out-x.In || x.Sound < -100 || x.Sound > 100:
			return api.ErrRange
		case i == 0 && (x.Fade != 0 || x.Sound != 0):
			return api.ErrRule
		}
		for j := range x.Fade {
			if !has(reels, l[i-1].Reel, l[i-1].Out+j) {
				return api.ErrShort
			}
		}
	}
	seen, heard, length := begins(l)
	if length > 1024 {
		return api.ErrLarge
	}
	for i := 1; i < len(l); i++ {
		if heard[i] <= heard[i-1] || heard[i] >= length {
			return api.ErrOrder
		}
	}
	for i, x := range l {
		for t := heard[i]; t < append(slices.Clone(heard), length)[i+1]; t++ {
			if !has(reels, x.Reel, x.In+t-seen[i]) {
				return api.ErrShort
			}
		}
	}
	return api.OK
}

// shown is what is seen and heard at a frame.
type shown struct {
	seen  []tape.Take
	heard tape.Take
}

// ratio returns num / den in lowest terms.
func ratio(num, den int) api.Ratio {
	for n := den; n > 1; n-- {
		if num%n == 0 && den%n == 0 {
			num, den = num/n, den/n
		}
	}
	return api.Ratio{Num: num, Den: den}
}

// showing returns what is seen and heard at each frame of a list, edit by edit.
func showing(l []tape.Edit) []shown {
	var all []shown
	for i, x := range l {
		for n := x.In; n < x.Out; n++ {
			j := n - x.In
			if j >= x.Fade {
				all = append(all, shown{seen: []tape.Take{take(x.Reel, n, 1, 1)}})
				continue
			}
			rest, part := ratio(x.Fade-j, x.Fade+1), ratio(j+1, x.Fade+1)
			before := l[i-1]
			all = append(all, shown{seen: []tape.Take{{Reel: before.Reel, Frame: before.Out + j, Part: rest}, {Reel: x.Reel, Frame: n, Part: part}}})
		}
	}
	seen, heard, length := begins(l)
	for i, x := range l { // later sounds replace earlier ones
		for t := heard[i]; t < length; t++ {
			all[t].heard = take(x.Reel, x.In+t-seen[i], 1, 1)
		}
	}
	return all
}

// reels returns some reels.
func (d *dice) reels() []tape.Reel {
	var l []tape.Reel
	for i := range 1 + d.below(4) {
		r := reel(string("dacb"[i]), []int{0, 1, 50, 9999000}[d.below(4)]+d.below(20))
		for range d.between(1, []int{5, 30, 256}[d.below(3)]) {
			r.Checks = append(r.Checks, d.between(0, 65535))
		}
		l = append(l, r)
	}
	return l
}

// edit returns an edit that takes frames of one of some reels.
func (d *dice) edit(reels []tape.Reel) tape.Edit {
	r := reels[d.below(len(reels))]
	end := r.First + len(r.Checks)
	x := tape.Edit{Reel: r.Name, In: r.First + d.below(len(r.Checks))}
	x.Out = x.In + 1 + d.below(min(end-x.In, []int{3, 10, 256}[d.below(3)]))
	if d.below(2) == 0 {
		x.Fade = d.between(0, min(x.Out-x.In, 1+d.below(8)))
	}
	if d.below(2) == 0 {
		x.Sound = d.between(-5, 5)
	}
	return x
}

// list returns up to n edits without an error.
func (d *dice) list(reels []tape.Reel, n int) []tape.Edit {
	var l []tape.Edit
	for range 3 * n {
		longer := append(slices.Clone(l), d.edit(reels))
		if len(longer) == 1 {
			longer[0].Fade, longer[0].Sound = 0, 0
		}
		if len(longer) <= n && editsError(reels, longer) == api.OK {
			l = longer
		}
	}
	for range n { // a sound can begin after its edit's end only if another edit follows
		changed := slices.Clone(l)
		if len(l) > 1 {
			changed[1+d.below(len(l)-1)].Sound = d.between(-20, 20)
		}
		if editsError(reels, changed) == api.OK {
			l = changed
		}
	}
	return l
}

// givenEdits are lists of edits of the example's reels, and their errors.
func givenEdits() []given[[]tape.Edit] {
	a := edit("a", 11, 14, 0, 0)
	var l []given[[]tape.Edit]
	add := func(e api.Errno, x ...tape.Edit) { l = append(l, given[[]tape.Edit]{x, e}) }
	add(api.OK)
	add(api.OK, a)
	add(api.OK, exampleEdits()...)
	add(api.OK, slices.Repeat(edits(a), 16)...)
	add(api.ErrMany, slices.Repeat(edits(a), 17)...)
	add(api.ErrMany, make([]tape.Edit, 17)...)
	add(api.ErrUnknown, make([]tape.Edit, 16)...)
	for _, name := range []string{"", "A", "c", "ab", "a ", "\xff"} {
		add(api.ErrUnknown, edit(name, 11, 14, 0, 0))
		add(api.ErrUnknown, a, edit(name, 5, 4, -1, 101))
		add(api.ErrSpan, a, edit("b", 5, 4, 0, 0), edit(name, 11, 14, 0, 0))
	}
	for _, s := range []api.Span{span(14, 14), span(15, 14), span(9, 11), span(9, 10), span(15, 17), span(16, 17), span(9, 17), span(0, 1), span(-5, 12), span(math.MinInt, math.MaxInt), span(math.MaxInt, math.MinInt), span(math.MinInt, 12), span(12, math.MaxInt), span(math.MaxInt, math.MaxInt), span(math.MinInt, math.MinInt), span(math.MaxInt-1, math.MaxInt)} {
		add(api.ErrSpan, edit("a", s.From, s.To, -1, 101))
		add(api.ErrSpan, a, edit("a", s.From, s.To, 0, 0))
		add(api.ErrRange, a, edit("b", 50, 51, 0, 101), edit("a", s.From, s.To, 0, 0))
	}
	for _, s := range []api.Span{span(10, 16), span(10, 11), span(15, 16)} {
		add(api.OK, edit("a", s.From, s.To, 0, 0))
	}
	for _, n := range numbers(0, 2, api.ErrRange) {
		add(n.e, edit("a", 11, 13, 0, 0), edit("b", 50, 52, n.v, 0))
		add(firstError(n.e, api.ErrRange), a, edit("b", 50, 52, n.v, 101))
		if n.v != 0 {
			add(firstError(n.e, api.ErrRule), edit("a", 11, 13, n.v, 0))
		}
	}
	for _, n := range numbers(-100, 100, api.ErrRange) {
		add(firstError(n.e, api.ErrOrder), a, edit("b", 50, 52, 0, n.v))
		add(firstError(n.e, api.ErrRule), edit("a", 11, 13, 0, n.v))
		add(firstError(n.e, api.ErrRule), edit("a", 11, 13, 1, n.v))
		add(firstError(n.e, api.ErrShort), a, edit("b", 50, 54, 3, n.v))
	}
	add(api.ErrRule, edit("a", 11, 12, 0, 1), edit("c", 0, 0, 0, 0))
	add(api.OK, a, edit("b", 50, 53, 2, 0))
	add(api.ErrShort, a, edit("b", 50, 53, 3, 0))
	add(api.ErrShort, a, edit("b", 50, 53, 3, 0), edit("c", 0, 0, 0, 0))
	add(api.ErrShort, edit("a", 10, 16, 0, 0), edit("b", 50, 53, 1, 0))
	add(api.OK, edit("a", 10, 16, 0, 0), edit("b", 50, 53, 0, 0))
	add(api.ErrOrder, a, edit("b", 50, 53, 0, -3))
	add(api.ErrShort, a, edit("b", 50, 53, 0, -2))
	add(api.OK, a, edit("b", 52, 53, 0, -2))
	add(api.OK, edit("a", 11, 12, 0, 0), edit("b", 50, 53, 0, 2))
	add(api.ErrOrder, edit("a", 11, 12, 0, 0), edit("b", 50, 53, 0, 3))
	add(api.OK, edit("a", 11, 14, 0, 0), edit("b", 50, 53, 0, 2))
	add(api.ErrShort, edit("a", 11, 15, 0, 0), edit("b", 50, 53, 0, 2))
	add(api.ErrOrder, edit("a", 11, 12, 0, 0), edit("b", 50, 51, 0, 1), edit("a", 13, 14, 0, 0))
	add(api.OK, edit("a", 11, 12, 0, 0), edit("b", 50, 51, 0, 1), edit("a", 13, 14, 1, 1), edit("a", 12, 15, 1, 1))
	add(api.ErrOrder, edit("a", 11, 12, 0, 0), edit("b", 50, 51, 0, 2), edit("a", 13, 14, 0, 1), edit("a", 13, 16, 0, 1))
	add(api.ErrOrder, edit("a", 15, 16, 0, 0), edit("b", 50, 51, 0, 1), edit("a", 13, 14, 0, 1))
	add(api.ErrShort, edit("a", 15, 16, 0, 0), edit("b", 50, 51, 0, 1), edit("a", 12, 14, 0, 1))
	return l
}

// givenTexts are lists of edits and the errors of their texts.
func givenTexts() []given[[]tape.Edit] {
	a := edit("a", 11, 14, 0, 0)
	l := []given[[]tape.Edit]{{nil, api.OK}, {slices.Repeat(edits(a), 16), api.OK}, {slices.Repeat(edits(a), 17), api.ErrMany}, {make([]tape.Edit, 17), api.ErrMany}, {make([]tape.Edit, 16), api.ErrName}}
	add := func(e api.Errno, x tape.Edit) {
		l = append(l, given[[]tape.Edit]{edits(x), e}, given[[]tape.Edit]{edits(a, x, tape.Edit{Reel: "?"}), firstError(e, api.ErrName)}, given[[]tape.Edit]{edits(a, x, edit("b", 0, 0, 0, 1000000000)), firstError(e, api.ErrRange)})
	}
	for _, n := range givenNames() {
		add(n.e, edit(n.v, 0, 0, 0, 0))
		add(firstError(n.e, api.ErrRange), edit(n.v, 1000000000, 0, 0, 0))
	}
	for _, n := range numbers(-999999999, 999999999, api.ErrRange) {
		add(n.e, edit("a", n.v, 1, 2, 3))
		add(n.e, edit("a", 1, n.v, 2, 3))
		add(n.e, edit("a", 1, 2, n.v, 3))
		add(n.e, edit("a", 1, 2, 3, n.v))
	}
	return l
}
