package tape_test

import (
	"math"
	"slices"
	"testing"

	"genlock/api"
	"genlock/tape"
)

// seenIn and heardIn return what is seen, or heard, at each frame.
func seenIn(l []shown) [][]tape.Take {
	var all [][]tape.Take
	for _, f := range l {
		all = append(all, f.seen)
	}
	return all
}

func heardIn(l []shown) []tape.Take {
	var all []tape.Take
	for _, f := range l {
		all = append(all, f.heard)
	}
	return all
}

// mixed returns the mixed checks of frames: all are above 0, so that a half is added and the rest cut off.
func mixed(reels []tape.Reel, l []shown) []int {
	var all []int
	for _, f := range l {
		num, den := 0, 1
		for _, x := range f.seen {
			r, _ := find(reels, x.Reel)
			num, den = num*x.Part.Den+x.Part.Num*r.Checks[x.Frame-r.First]*den, den*x.Part.Den
		}
		all = append(all, (2*num+den)/(2*den))
	}
	return all
}

// traced returns the frames at which a frame of a reel is seen.
func traced(l []shown, reel string, frame int) []int {
	var all []int
	for t, f := range l {
		if slices.ContainsFunc(f.seen, func(x tape.Take) bool { return x.Reel == reel && x.Frame == frame }) {
			all = append(all, t)
		}
	}
	return all
}

// needed returns what is seen or heard at some frames, reel by reel.
func needed(reels []tape.Reel, l []shown) []tape.Need {
	var all []tape.Need
	for _, r := range reels {
		from := -1
		for n := r.First; n <= r.First+len(r.Checks); n++ {
			isNeeded := len(traced(l, r.Name, n)) > 0 || slices.ContainsFunc(l, func(f shown) bool { return f.heard.Reel == r.Name && f.heard.Frame == n })
			switch {
			case isNeeded && from < 0:
				from = n
			case !isNeeded && from >= 0:
				all = append(all, tape.Need{Reel: r.Name, Span: span(from, n)})
				from = -1
			}
		}
	}
	return all
}

// wantLists compares the results of the functions of a list, or their errors.
func wantLists(t *testing.T, reels []tape.Reel, l []tape.Edit, e api.Errno) {
	t.Helper()
	what := results(reels, l)
	want(t, what, results(tape.CheckEdits(reels, l)), e)
	if e != api.OK {
		want(t, what, results(tape.Starts(reels, l)), []int{}, 0, e)
		want(t, what, results(tape.Conformed(reels, l)), []tape.Take{}, e)
		want(t, what, results(tape.Sounds(reels, l)), []tape.Take{}, e)
		want(t, what, results(tape.Played(reels, l)), []int{}, e)
		want(t, what, results(tape.Traced(reels, l, tape.Take{})), []int{}, e)
		want(t, what, results(tape.Needed(reels, l)), []tape.Need{}, e)
		return
	}
	seen, _, length := begins(l)
	all := showing(l)
	want(t, what, results(tape.Starts(reels, l)), seen, length, api.OK)
	want(t, what, results(tape.Conformed(reels, l)), seenIn(all), api.OK)
	want(t, what, results(tape.Sounds(reels, l)), heardIn(all), api.OK)
	want(t, what, results(tape.Played(reels, l)), mixed(reels, all), api.OK)
	want(t, what, results(tape.Needed(reels, l)), needed(reels, all), api.OK)
}

// P8.2: the document's examples 3 to 5.
func TestExampleLists(t *testing.T) {
	reels := exampleReels()
	l := edits(edit("a", 11, 14, 0, 0), edit("b", 50, 53, 1, -1), edit("a", 15, 16, 0, 0))
	want(t, l, results(tape.CheckEdits(reels, l)), api.ErrShort)
	l[1].Sound = 0
	want(t, l, results(tape.Starts(reels, l)), []int{0, 3, 6}, 7, api.OK)
	all := must[[][]tape.Take](t)(tape.Conformed(reels, l))
	want(t, l, results(all[3:5]), [][]tape.Take{{take("a", 14, 1, 2), take("b", 50, 1, 2)}, {take("b", 51, 1, 1)}})
	l = exampleEdits()
	want(t, l, results(tape.CheckEdits(reels, l)), api.OK)
	want(t, l, results(tape.Starts(reels, l)), []int{0, 3, 5}, 6, api.OK)
	want(t, l, results(tape.Played(reels, l)), []int{100, 200, 300, 225, 60, 500}, api.OK)
	want(t, l, results(tape.Sounds(reels, l)), []tape.Take{take("a", 11, 1, 1), take("a", 12, 1, 1), take("b", 50, 1, 1), take("b", 51, 1, 1), take("b", 52, 1, 1), take("a", 15, 1, 1)}, api.OK)
	want(t, l, results(tape.Needed(reels, l)), []tape.Need{{Reel: "a", Span: span(11, 16)}, {Reel: "b", Span: span(50, 53)}}, api.OK)
	want(t, l, results(tape.Traced(reels, l, take("a", 14, 1, 1))), []int{3}, api.OK)
}

// P8.2: the errors of reels and lists.
func TestCheckEdits(t *testing.T) {
	reels := exampleReels()
	for _, l := range givenEdits() {
		want(t, l.v, results(editsError(reels, l.v)), l.e)
		wantLists(t, reels, l.v, l.e)
	}
	for _, r := range givenLists() {
		for _, l := range [][]tape.Edit{nil, make([]tape.Edit, 17), edits(tape.Edit{})} {
			e := firstError(r.e, editsError(r.v, l))
			wantLists(t, r.v, l, e)
		}
	}
}

// P8.2: a list has up to 1024 frames; its length comes before its sounds.
func TestLongLists(t *testing.T) {
	reels := []tape.Reel{reel("a", 0, make([]int, 256)...), reel("b", 7, 1, 2)}
	l := slices.Repeat(edits(edit("a", 0, 256, 0, 0)), 4)
	wantLists(t, reels, l, api.OK)
	wantLists(t, reels, append(slices.Clone(l), edit("b", 7, 8, 0, 0)), api.ErrLarge)
	wantLists(t, reels, append(slices.Clone(l), edit("b", 7, 9, 0, 50)), api.ErrLarge)
	wantLists(t, reels, append(slices.Clone(l), edit("b", 7, 9, 1, 50)), api.ErrShort)
	wantLists(t, reels, append(slices.Clone(l), edit("c", 7, 9, 0, 0)), api.ErrUnknown)
	wantLists(t, reels, slices.Repeat(edits(edit("a", 0, 256, 0, 0)), 16), api.ErrLarge)
	l[3].Out = 255
	l = append(l, edit("b", 7, 8, 0, 0))
	wantLists(t, reels, l, api.OK)
	l[4].Sound = 1
	wantLists(t, reels, l, api.ErrOrder)
	l[4].Sound = -100
	wantLists(t, reels, l, api.ErrShort)
	l[4] = edit("a", 100, 101, 1, -100)
	wantLists(t, reels, l, api.OK)
	l[4] = edit("a", 99, 100, 1, -100)
	wantLists(t, reels, l, api.ErrShort)
}

// P8.2: fades as long as their edits, of one reel, and up to 256 frames.
func TestFades(t *testing.T) {
	reels := exampleReels()
	l := edits(edit("a", 10, 12, 0, 0), edit("b", 50, 53, 3, 0), edit("a", 15, 16, 1, 0))
	wantLists(t, reels, l, api.OK)
	want(t, l, results(tape.Conformed(reels, l)), [][]tape.Take{{take("a", 10, 1, 1)}, {take("a", 11, 1, 1)}, {take("a", 12, 3, 4), take("b", 50, 1, 4)}, {take("a", 13, 1, 2), take("b", 51, 1, 2)}, {take("a", 14, 1, 4), take("b", 52, 3, 4)}, {take("b", 53, 1, 2), take("a", 15, 1, 2)}}, api.OK)
	want(t, l, results(tape.Played(reels, l)), []int{0, 100, 160, 175, 145, 285}, api.OK)
	same := edits(edit("a", 10, 12, 0, 0), edit("a", 12, 14, 2, 0))
	wantLists(t, reels, same, api.OK)
	want(t, same, results(tape.Conformed(reels, same)), [][]tape.Take{{take("a", 10, 1, 1)}, {take("a", 11, 1, 1)}, {take("a", 12, 2, 3), take("a", 12, 1, 3)}, {take("a", 13, 1, 3), take("a", 13, 2, 3)}}, api.OK)
	want(t, same, results(tape.Traced(reels, same, take("a", 13, 5, 0))), []int{3}, api.OK)
	want(t, same, results(tape.Played(reels, same)), []int{0, 100, 200, 300}, api.OK)
	long := []tape.Reel{reel("a", 5, make([]int, 256)...), reel("b", 9000000, slices.Repeat([]int{65535}, 256)...), reel("c", 0, 1)}
	faded := edits(edit("c", 0, 1, 0, 0), edit("a", 5, 6, 0, 0), edit("b", 9000000, 9000255, 255, 0))
	wantLists(t, long, faded, api.OK)
	faded[2] = edit("b", 9000000, 9000256, 256, 0)
	wantLists(t, long, faded, api.ErrShort)
}

// P8.2: mixed checks are rounded from the middle to the greater one.
func TestRoundedChecks(t *testing.T) {
	for _, x := range []struct{ a, b, fade, at, mixed int }{{0, 1, 1, 1, 1}, {1, 0, 1, 1, 1}, {0, 65535, 1, 1, 32768}, {65535, 65534, 1, 1, 65535}, {0, 1, 2, 1, 0}, {0, 1, 2, 2, 1}, {0, 2, 3, 1, 1}, {0, 2, 3, 3, 2}, {0, 1, 3, 2, 1}, {3, 3, 3, 1, 3}, {0, 5, 9, 1, 1}, {0, 4, 9, 1, 0}, {65535, 65535, 6, 5, 65535}} {
		reels := []tape.Reel{reel("a", 0, slices.Repeat([]int{x.a}, 12)...), reel("b", 0, slices.Repeat([]int{x.b}, 12)...)}
		l := edits(edit("a", 0, 1, 0, 0), edit("b", 0, 12, x.fade, 0))
		want(t, x, results(must[[]int](t)(tape.Played(reels, l))[x.at]), x.mixed)
		wantLists(t, reels, l, api.OK)
	}
}

// P8.2: sounds that begin before and after the edits between which they are heard.
func TestSounds(t *testing.T) {
	reels := []tape.Reel{reel("a", 0, make([]int, 40)...), reel("b", 100, make([]int, 40)...)}
	l := edits(edit("a", 5, 15, 0, 0), edit("b", 120, 122, 0, -9), edit("a", 20, 23, 0, 2), edit("b", 130, 140, 0, 0))
	wantLists(t, reels, l, api.OK)
	sounds := must[[]tape.Take](t)(tape.Sounds(reels, l))
	want(t, l, results(sounds[0], sounds[1], sounds[13], sounds[14], sounds[15], sounds[24]), take("a", 5, 1, 1), take("b", 111, 1, 1), take("b", 123, 1, 1), take("a", 22, 1, 1), take("b", 130, 1, 1), take("b", 139, 1, 1))
	want(t, l, results(tape.Needed(reels, l)), []tape.Need{{Reel: "a", Span: span(5, 15)}, {Reel: "a", Span: span(20, 23)}, {Reel: "b", Span: span(111, 124)}, {Reel: "b", Span: span(130, 140)}}, api.OK)
	late := edits(edit("a", 0, 1, 0, 0), edit("b", 100, 101, 0, 1), edit("a", 1, 2, 0, 2), edit("b", 101, 102, 0, 3), edit("a", 30, 40, 0, 4))
	wantLists(t, reels, late, api.OK)
	late[4].Sound = 10
	wantLists(t, reels, late, api.ErrOrder)
	far := edits(edit("a", 0, 1, 0, 0), edit("b", 101, 140, 0, 100), edit("b", 101, 140, 0, 100), edit("b", 101, 140, 0, 100))
	wantLists(t, reels, far, api.ErrOrder)
}

// P8.2: the errors of a take that is traced, and the frames at which it is seen.
func TestTraced(t *testing.T) {
	reels, l := exampleReels(), exampleEdits()
	for _, x := range []given[tape.Take]{
		{take("a", 10, 1, 1), api.OK}, {take("a", 15, 0, 0), api.OK}, {take("b", 50, -7, math.MinInt), api.OK}, {take("b", 53, 1, 2), api.OK},
		{take("", 10, 1, 1), api.ErrUnknown}, {take("c", 10, 1, 1), api.ErrUnknown}, {take("A", math.MaxInt, 1, 1), api.ErrUnknown}, {take("\xff", 0, 0, 0), api.ErrUnknown},
		{take("a", 9, 1, 1), api.ErrSpan}, {take("a", 16, 1, 1), api.ErrSpan}, {take("b", 49, 1, 1), api.ErrSpan}, {take("b", 54, 1, 1), api.ErrSpan}, {take("b", 11, 1, 1), api.ErrSpan}, {take("a", math.MinInt, 1, 1), api.ErrSpan}, {take("a", math.MaxInt, 1, 1), api.ErrSpan}, {take("a", -1, 1, 1), api.ErrSpan},
	} {
		wantError(t, x.v, results(tape.Traced(reels, l, x.v)), x.e, []int{})
		want(t, x.v, results(tape.Traced(reels, edits(edit("c", 0, 1, 0, 0)), x.v)), []int{}, api.ErrUnknown)
		wantError(t, x.v, results(tape.Traced(reels, nil, x.v)), x.e, []int{})
	}
	want(t, l, results(tape.Traced(reels, l, take("b", 50, 1, 1))), []int{}, api.OK)
	want(t, l, results(tape.Traced(reels, l, take("a", 14, 1, 1))), []int{3}, api.OK)
	again := edits(edit("a", 11, 13, 0, 0), edit("b", 50, 52, 0, 0), edit("a", 12, 14, 0, 0), edit("b", 53, 54, 1, 0))
	want(t, again, results(tape.Traced(reels, again, take("a", 12, 1, 1))), []int{1, 4}, api.OK)
	want(t, again, results(tape.Traced(reels, again, take("a", 14, 1, 1))), []int{6}, api.OK)
	want(t, again, results(tape.Traced(reels, again, take("b", 53, 1, 1))), []int{6}, api.OK)
}

// P8.2: what a list needs stands in the order of the reels.
func TestNeededInOrder(t *testing.T) {
	reels := exampleReels()
	slices.Reverse(reels)
	want(t, "b, a", results(tape.Needed(reels, exampleEdits())), []tape.Need{{Reel: "b", Span: span(50, 53)}, {Reel: "a", Span: span(11, 16)}}, api.OK)
	want(t, "a twice", results(tape.Needed(reels, edits(edit("a", 14, 16, 0, 0), edit("a", 10, 12, 0, 0), edit("a", 11, 13, 0, 0)))), []tape.Need{{Reel: "a", Span: span(10, 13)}, {Reel: "a", Span: span(14, 16)}}, api.OK)
	want(t, "a and its neighbours", results(tape.Needed(reels, edits(edit("a", 12, 13, 0, 0), edit("a", 10, 12, 0, 0)))), []tape.Need{{Reel: "a", Span: span(10, 13)}}, api.OK)
	want(t, "nothing", results(tape.Needed(reels, nil)), []tape.Need{}, api.OK)
}

// P8.2: lists without and with errors are as the model says.
func TestListsOfModel(t *testing.T) {
	d := dice(3)
	long, sound, faded := 0, 0, 0
	for range 1500 {
		reels := d.reels()
		l := d.list(reels, d.below(17))
		wantLists(t, reels, l, api.OK)
		all := showing(l)
		for range 5 {
			r := reels[d.below(len(reels))]
			frame := r.First + d.below(len(r.Checks))
			want(t, results(reels, l, r.Name, frame), results(tape.Traced(reels, l, take(r.Name, frame, d.below(3), d.below(3)))), traced(all, r.Name, frame), api.OK)
		}
		for _, x := range l {
			sound += min(1, max(x.Sound, -x.Sound))
			faded += min(1, x.Fade)
		}
		long += len(l) / 8
	}
	if long < 100 || sound < 100 || faded < 100 {
		t.Errorf("only %d, %d and %d", long, sound, faded)
	}
	count := map[api.Errno]int{}
	for range 5000 {
		reels := d.reels()
		l := d.list(reels, 6)
		for range 1 + d.below(3) {
			if len(l) > 0 {
				d.spoil(&l[d.below(len(l))])
			}
		}
		e := editsError(reels, l)
		count[e]++
		wantLists(t, reels, l, e)
	}
	for _, e := range []api.Errno{api.OK, api.ErrUnknown, api.ErrSpan, api.ErrRange, api.ErrRule, api.ErrShort, api.ErrOrder} {
		if count[e] < 20 {
			t.Errorf("%v", count)
		}
	}
}

// spoil changes something of an edit.
func (d *dice) spoil(x *tape.Edit) {
	switch d.below(6) {
	case 0:
		x.Reel = []string{"a", "b", "c", "d", "e"}[d.below(5)]
	case 1:
		x.In += d.between(-3, 3)
	case 2:
		x.Out += d.between(-3, 3)
	case 3:
		x.Fade += d.between(-3, 3)
	case 4:
		x.Sound += d.between(-10, 10)
	case 5:
		x.Sound += d.between(-200, 200)
	}
}
