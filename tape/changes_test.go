package tape_test

import (
	"slices"
	"testing"

	"genlock/api"
	"genlock/tape"
)

// changer is a function that changes an edit of a list by a number.
type changer struct {
	name   string
	call   func(reels []tape.Reel, l []tape.Edit, edit, by int) ([]tape.Edit, api.Errno)
	change func(l []tape.Edit, edit, by int)
	first  api.Errno // the error of the first edit
}

// changers are all of these functions, and what they do.
func changers() []changer {
	return []changer{
		{"Trimmed", tape.Trimmed, func(l []tape.Edit, edit, by int) { l[edit].Out += by }, api.OK},
		{"Rolled", tape.Rolled, func(l []tape.Edit, edit, by int) { l[edit].In += by; l[edit-1].Out += by }, api.ErrRule},
		{"Slipped", tape.Slipped, func(l []tape.Edit, edit, by int) { l[edit].In += by; l[edit].Out += by }, api.OK},
	}
}

// wantChanged compares a changed list, or its error, with the model.
func wantChanged(t *testing.T, c changer, reels []tape.Reel, l []tape.Edit, edit, by int) api.Errno {
	t.Helper()
	what := results(c.name, reels, l, edit, by)
	e := editsError(reels, l)
	changed := slices.Clone(l)
	switch {
	case e != api.OK:
	case edit < 0 || edit >= len(l):
		e = api.ErrUnknown
	case by < -10000000 || by > 10000000:
		e = api.ErrRange
	case edit == 0 && c.first != api.OK:
		e = c.first
	default:
		c.change(changed, edit, by)
		e = editsError(reels, changed)
	}
	if e != api.OK {
		changed = nil
	}
	want(t, what, results(c.call(reels, l, edit, by)), changed, e)
	return e
}

// P8.3: the document's examples 6 and 7.
func TestExampleChanges(t *testing.T) {
	reels, l := exampleReels(), exampleEdits()
	trimmed := edits(edit("a", 11, 15, 0, 0), l[1], l[2])
	want(t, l, results(tape.Trimmed(reels, l, 0, 1)), trimmed, api.OK)
	_, length, _ := tape.Starts(reels, trimmed)
	want(t, trimmed, results(length), 7)
	want(t, l, results(tape.Rolled(reels, l, 2, -1)), edits(l[0], edit("b", 51, 52, 1, -1), edit("a", 14, 16, 0, 0)), api.OK)
	want(t, l, results(tape.Slipped(reels, l, 2, 1)), []tape.Edit{}, api.ErrSpan)
	want(t, l, results(tape.Parted(reels, l, 5)), l[:2], l[2:], api.OK)
	want(t, l, results(tape.Parted(reels, l, 3)), []tape.Edit{}, []tape.Edit{}, api.ErrState)
	want(t, l, results(tape.Parted(reels, l, 2)), []tape.Edit{}, []tape.Edit{}, api.ErrOrder)
}

// P8.3: the errors of changed edits, in their order.
func TestChangedErrors(t *testing.T) {
	for _, c := range changers() {
		for _, l := range givenEdits() {
			want(t, results(c.name, l.v), results(wantChanged(t, c, exampleReels(), l.v, 99, 0)), firstError(l.e, api.ErrUnknown))
		}
		for _, r := range givenLists() {
			want(t, results(c.name, r.v), results(c.call(r.v, nil, 0, 0)), []tape.Edit{}, firstError(r.e, api.ErrUnknown))
		}
		for _, at := range numbers(0, 2, api.ErrUnknown) {
			for _, by := range numbers(-10000000, 10000000, api.ErrRange) {
				e := wantChanged(t, c, exampleReels(), exampleEdits(), at.v, by.v)
				first := api.OK
				if at.v == 0 {
					first = c.first
				}
				want(t, results(c.name, at, by), results(e), firstError(at.e, by.e, first, api.ErrSpan))
			}
			if at.v > 0 && at.e == api.OK {
				want(t, results(c.name, at), results(c.call(exampleReels(), exampleEdits(), at.v, 0)), exampleEdits(), api.OK)
			}
		}
		want(t, c.name, results(c.call(exampleReels(), exampleEdits(), 0, 0)), map[bool][]tape.Edit{true: exampleEdits()}[c.first == api.OK], c.first)
	}
}

// P8.3: a changed list has the first of the errors of lists.
func TestChangedLists(t *testing.T) {
	reels := exampleReels()
	l := exampleEdits()
	for _, x := range []struct {
		c        int
		edit, by int
		e        api.Errno
	}{
		{0, 0, -1, api.OK}, {0, 0, -2, api.ErrOrder}, {0, 0, -3, api.ErrSpan}, {0, 0, 1, api.OK}, {0, 0, 2, api.ErrShort}, {0, 0, 3, api.ErrSpan}, {0, 1, -1, api.OK}, {0, 1, -2, api.ErrSpan}, {0, 1, 1, api.OK}, {0, 1, 2, api.ErrSpan}, {0, 2, 1, api.ErrSpan}, {0, 2, -1, api.ErrSpan},
		{1, 1, 1, api.OK}, {1, 1, -1, api.ErrShort}, {1, 1, 2, api.ErrSpan}, {1, 1, -2, api.ErrSpan}, {1, 2, -1, api.OK}, {1, 2, -2, api.ErrSpan}, {1, 2, 1, api.ErrSpan},
		{2, 0, 1, api.OK}, {2, 0, -1, api.OK}, {2, 0, 2, api.ErrShort}, {2, 0, 3, api.ErrSpan}, {2, 1, 1, api.OK}, {2, 1, -1, api.ErrShort}, {2, 1, 2, api.ErrSpan}, {2, 2, -5, api.OK}, {2, 2, -6, api.ErrSpan},
	} {
		c := changers()[x.c]
		want(t, results(c.name, x), results(wantChanged(t, c, reels, l, x.edit, x.by)), x.e)
	}
	faded := edits(edit("a", 11, 13, 0, 0), edit("b", 50, 52, 2, 0))
	want(t, faded, results(tape.Trimmed(reels, faded, 1, -1)), []tape.Edit{}, api.ErrRange)
	want(t, faded, results(tape.Rolled(reels, faded, 1, 1)), []tape.Edit{}, api.ErrRange)
	want(t, faded, results(tape.Trimmed(reels, faded, 0, 2)), []tape.Edit{}, api.ErrShort)
	long := []tape.Reel{reel("a", 0, make([]int, 256)...)}
	full := append(slices.Repeat(edits(edit("a", 0, 256, 0, 0)), 3), edit("a", 0, 255, 0, 0), edit("a", 0, 1, 0, 0))
	want(t, "too long", results(tape.Trimmed(long, full, 4, 1)), []tape.Edit{}, api.ErrLarge)
	want(t, "still long", results(tape.Rolled(long, full, 4, 1)), []tape.Edit{}, api.ErrSpan)
	d := dice(4)
	count := map[api.Errno]int{}
	for range 4000 {
		reels := d.reels()
		l := d.list(reels, 8)
		at := d.between(0, max(len(l)-1, 0))
		count[wantChanged(t, changers()[d.below(3)], reels, l, at, d.between(-4, 4))]++
	}
	for _, e := range []api.Errno{api.OK, api.ErrSpan, api.ErrRange, api.ErrRule, api.ErrShort, api.ErrOrder} {
		if count[e] < 20 {
			t.Errorf("%v", count)
		}
	}
}

// P8.3: joined lists, and their errors.
func TestJoined(t *testing.T) {
	reels := exampleReels()
	a := edits(edit("a", 11, 14, 0, 0))
	for _, l := range givenEdits() {
		joined := append(slices.Clone(a), l.v...)
		e := firstError(l.e, editsError(reels, joined))
		wantError(t, l.v, results(tape.Joined(reels, a, l.v)), e, []tape.Edit{})
		wantError(t, l.v, results(tape.Joined(reels, l.v, a)), firstError(l.e, editsError(reels, append(slices.Clone(l.v), a...))), []tape.Edit{})
		if e == api.OK {
			want(t, l.v, results(tape.Joined(reels, a, l.v)), joined, api.OK)
		}
		if l.e == api.OK {
			want(t, l.v, results(tape.Joined(reels, l.v, nil)), l.v, api.OK)
			want(t, l.v, results(tape.Joined(reels, nil, l.v)), l.v, api.OK)
		}
		want(t, l.v, results(tape.Joined(reels, l.v, edits(edit("c", 0, 0, 0, 0)))), []tape.Edit{}, firstError(l.e, api.ErrUnknown))
	}
	for _, r := range givenLists() {
		wantError(t, r.v, results(tape.Joined(r.v, nil, nil)), r.e, []tape.Edit{})
	}
	want(t, "both", results(tape.Joined(reels, exampleEdits(), exampleEdits())), append(exampleEdits(), exampleEdits()...), api.OK)
	want(t, "16 edits", results(tape.Joined(reels, slices.Repeat(a, 9), slices.Repeat(a, 7))), slices.Repeat(a, 16), api.OK)
	want(t, "17 edits", results(tape.Joined(reels, slices.Repeat(a, 9), slices.Repeat(a, 8))), []tape.Edit{}, api.ErrMany)
	want(t, "heard too far", results(tape.Joined(reels, edits(edit("a", 14, 16, 0, 0)), edits(edit("b", 50, 51, 0, 0), edit("a", 12, 14, 0, 0)))), edits(edit("a", 14, 16, 0, 0), edit("b", 50, 51, 0, 0), edit("a", 12, 14, 0, 0)), api.OK)
	long := []tape.Reel{reel("a", 0, make([]int, 256)...)}
	half := slices.Repeat(edits(edit("a", 0, 256, 0, 0)), 2)
	want(t, "1024 frames", results(tape.Joined(long, half, half)), slices.Repeat(half, 2), api.OK)
	want(t, "1025 frames", results(tape.Joined(long, slices.Repeat(half, 2), edits(edit("a", 0, 1, 0, 0)))), []tape.Edit{}, api.ErrLarge)
	want(t, "1025 frames in 17 edits", results(tape.Joined(long, slices.Repeat(half, 2), slices.Repeat(edits(edit("a", 0, 1, 0, 0)), 13))), []tape.Edit{}, api.ErrMany)
}

// parted returns the lists before and after a frame, or the error, as the chapter names them.
func parted(reels []tape.Reel, l []tape.Edit, at int) (first, second []tape.Edit, e api.Errno) {
	seen, heard, length := begins(l)
	if at < 0 || at > length {
		return nil, nil, api.ErrRange
	}
	for i, x := range l {
		switch {
		case at > seen[i] && at < seen[i]+x.Fade, seen[i] < at && heard[i] >= at, seen[i] >= at && heard[i] < at:
			return nil, nil, api.ErrState
		}
	}
	for i, x := range l {
		before, after := x, x
		cut := x.In + at - seen[i]
		switch {
		case cut >= x.Out:
			first = append(first, x)
		case cut <= x.In:
			second = append(second, x)
		default:
			before.Out = cut
			after.In, after.Fade, after.Sound = cut, 0, 0
			first, second = append(first, before), append(second, after)
		}
	}
	if e := firstError(editsError(reels, first), editsError(reels, second)); e != api.OK {
		return nil, nil, e
	}
	return first, second, api.OK
}

// P8.3: parted lists, and their errors.
func TestParted(t *testing.T) {
	for _, l := range givenEdits() {
		_, _, length := begins(l.v)
		for _, at := range append(numbers(0, length, api.ErrRange), given[int]{1, api.OK}, given[int]{2, api.OK}, given[int]{3, api.OK}) {
			if l.e != api.OK {
				want(t, results(l.v, at.v), results(tape.Parted(exampleReels(), l.v, at.v)), []tape.Edit{}, []tape.Edit{}, l.e)
				continue
			}
			first, second, e := parted(exampleReels(), l.v, at.v)
			want(t, results(l.v, at.v), results(tape.Parted(exampleReels(), l.v, at.v)), first, second, e)
		}
	}
	for _, r := range givenLists() {
		wantError(t, r.v, results(tape.Parted(r.v, nil, 0)), r.e, []tape.Edit{}, []tape.Edit{})
		want(t, r.v, results(tape.Parted(r.v, nil, 1)), []tape.Edit{}, []tape.Edit{}, firstError(r.e, api.ErrRange))
	}
	d := dice(5)
	count := map[api.Errno]int{}
	for range 1500 {
		reels := d.reels()
		l := d.list(reels, 1+d.below(8))
		_, _, length := begins(l)
		for at := range min(length+1, 40) {
			first, second, e := parted(reels, l, at)
			want(t, results(reels, l, at), results(tape.Parted(reels, l, at)), first, second, e)
			count[e]++
		}
	}
	for _, e := range []api.Errno{api.OK, api.ErrState, api.ErrRule, api.ErrOrder} {
		if count[e] < 100 {
			t.Errorf("%v", count)
		}
	}
}

// P8.3: where lists cannot be parted.
func TestPartedErrors(t *testing.T) {
	reels := []tape.Reel{reel("a", 0, make([]int, 40)...), reel("b", 100, make([]int, 40)...)}
	a, c := edit("a", 5, 10, 0, 0), edit("a", 20, 25, 0, 0)
	for _, x := range []struct {
		b tape.Edit
		e [16]api.Errno // at each frame
	}{
		{edit("b", 110, 115, 0, 0), [16]api.Errno{}},
		{edit("b", 110, 115, 1, 0), [16]api.Errno{5: api.ErrRule}},
		{edit("b", 110, 115, 3, 0), [16]api.Errno{5: api.ErrRule, 6: api.ErrState, 7: api.ErrState}},
		{edit("b", 110, 115, 5, 0), [16]api.Errno{5: api.ErrRule, 6: api.ErrState, 7: api.ErrState, 8: api.ErrState, 9: api.ErrState}},
		{edit("b", 110, 115, 0, 1), [16]api.Errno{5: api.ErrRule, 6: api.ErrState}},
		{edit("b", 110, 115, 0, 3), [16]api.Errno{5: api.ErrRule, 6: api.ErrState, 7: api.ErrState, 8: api.ErrState}},
		{edit("b", 110, 115, 0, -3), [16]api.Errno{2: api.ErrOrder, 3: api.ErrState, 4: api.ErrState, 5: api.ErrState}},
		{edit("b", 110, 115, 2, -1), [16]api.Errno{4: api.ErrOrder, 5: api.ErrState, 6: api.ErrState}},
	} {
		l := edits(a, x.b, c)
		for at, e := range x.e {
			wantError(t, results(x.b, at), results(tape.Parted(reels, l, at)), e, []tape.Edit{}, []tape.Edit{})
		}
	}
	whole := edits(a, edit("b", 110, 115, 3, -1), c)
	want(t, whole, results(tape.Parted(reels, whole, 0)), []tape.Edit{}, whole, api.OK)
	want(t, whole, results(tape.Parted(reels, whole, 15)), whole, []tape.Edit{}, api.OK)
	want(t, whole, results(tape.Parted(reels, whole, 8)), edits(a, edit("b", 110, 113, 3, -1)), edits(edit("b", 113, 115, 0, 0), c), api.OK)
	want(t, whole, results(tape.Parted(reels, whole, 3)), edits(edit("a", 5, 8, 0, 0)), edits(edit("a", 8, 10, 0, 0), edit("b", 110, 115, 3, -1), c), api.OK)
	want(t, "no edits", results(tape.Parted(reels, nil, 0)), []tape.Edit{}, []tape.Edit{}, api.OK)
	sixteen := slices.Repeat(edits(a), 16)
	want(t, "16 edits", results(tape.Parted(reels, sixteen, 3)), edits(edit("a", 5, 8, 0, 0)), append(edits(edit("a", 8, 10, 0, 0)), sixteen[1:]...), api.OK)
}

// apart returns the spans at which two lists differ.
func apart(a, b []shown) []api.Span {
	var all []api.Span
	from := -1
	for t := range max(len(a), len(b)) + 1 {
		differ := t < max(len(a), len(b)) && (t >= len(a) || t >= len(b))
		if t < min(len(a), len(b)) {
			differ = a[t].heard != b[t].heard || !slices.Equal(a[t].seen, b[t].seen)
		}
		switch {
		case differ && from < 0:
			from = t
		case !differ && from >= 0:
			all = append(all, span(from, t))
			from = -1
		}
	}
	return all
}

// P8.3: differences of lists, and their errors.
func TestDifferences(t *testing.T) {
	reels := exampleReels()
	l := exampleEdits()
	for _, x := range givenEdits() {
		want(t, x.v, results(tape.Differences(reels, l, x.v)), map[bool][]api.Span{true: apart(showing(l), modelOf(x))}[x.e == api.OK], x.e)
		want(t, x.v, results(tape.Differences(reels, x.v, l)), map[bool][]api.Span{true: apart(modelOf(x), showing(l))}[x.e == api.OK], x.e)
		want(t, x.v, results(tape.Differences(reels, x.v, make([]tape.Edit, 17))), []api.Span{}, firstError(x.e, api.ErrMany))
	}
	for _, r := range givenLists() {
		want(t, r.v, results(tape.Differences(r.v, nil, nil)), []api.Span{}, r.e)
	}
	heard := exampleEdits()
	heard[1].Sound = 0
	want(t, "heard", results(tape.Differences(reels, l, heard)), []api.Span{span(2, 3)}, api.OK)
	seen := exampleEdits()
	seen[1].Fade = 0
	want(t, "seen with another part", results(tape.Differences(reels, l, seen)), []api.Span{span(3, 4)}, api.OK)
	want(t, "another frame", results(tape.Differences(reels, l, must[[]tape.Edit](t)(tape.Slipped(reels, l, 2, -1)))), []api.Span{span(5, 6)}, api.OK)
	want(t, "another reel", results(tape.Differences([]tape.Reel{reel("a", 0, 1, 1), reel("b", 0, 1, 1)}, edits(edit("a", 0, 1, 0, 0), edit("b", 0, 2, 0, 0)), edits(edit("b", 0, 1, 0, 0), edit("b", 0, 1, 0, 0), edit("a", 1, 2, 0, 0)))), []api.Span{span(0, 1), span(2, 3)}, api.OK)
	want(t, "a longer one", results(tape.Differences(reels, l[:1], l)), []api.Span{span(2, 6)}, api.OK)
	want(t, "one alone", results(tape.Differences(reels, nil, l)), []api.Span{span(0, 6)}, api.OK)
}

// modelOf returns what is shown by a list, if it has no error.
func modelOf(l given[[]tape.Edit]) []shown {
	if l.e != api.OK {
		return nil
	}
	return showing(l.v)
}

// P8.3: differences as the model says.
func TestDifferencesOfModel(t *testing.T) {
	d := dice(6)
	several := 0
	for range 2000 {
		reels := d.reels()
		a := d.list(reels, 1+d.below(8))
		b := slices.Clone(a)
		for range 1 + d.below(3) {
			if len(b) > 0 {
				d.spoil(&b[d.below(len(b))])
			}
		}
		if editsError(reels, b) != api.OK {
			b = d.list(reels, 3)
		}
		spans := apart(showing(a), showing(b))
		want(t, results(reels, a, b), results(tape.Differences(reels, a, b)), spans, api.OK)
		want(t, results(reels, b, a), results(tape.Differences(reels, b, a)), spans, api.OK)
		several += len(spans) / 2
	}
	if several < 50 {
		t.Errorf("only %d", several)
	}
}
