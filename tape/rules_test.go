package tape_test

import (
	"math"
	"slices"
	"testing"

	"genlock/api"
	"genlock/code"
	"genlock/tape"
)

// The limits of the chapter.
func TestLimits(t *testing.T) {
	want(t, "limits", results(tape.MaxFrames, tape.MaxCheck, tape.MaxReels, tape.MaxEdits, tape.MaxSound, tape.MaxRecord), 256, 65535, 8, 16, 100, 1024)
}

// clobber changes all elements of a list, and what follows them in its memory.
func clobber[T any](l []T, x T) {
	for i := range l {
		l[i] = x
	}
	_ = append(l, x)
}

// spare returns a list with free memory behind it.
func spare[T any](l []T) []T {
	return append(make([]T, 0, 60), l...)
}

// kept are arguments of all functions.
type kept struct {
	stream  []byte
	checks  []int
	reels   []tape.Reel
	list    []tape.Edit
	other   []tape.Edit
	repeats []int
}

// arguments returns new ones that have a result in all functions.
func arguments() kept {
	reels := exampleReels()
	for i, r := range reels {
		reels[i].Checks = spare(r.Checks)
	}
	return kept{
		stream:  spare(streamOf(reel("c", 1, 258, 7))),
		checks:  spare([]int{258, 7}),
		reels:   spare(reels),
		list:    spare(exampleEdits()),
		other:   spare(exampleEdits()[:2]),
		repeats: spare([]int{2, 3}),
	}
}

// outcome has the lists of the results of all functions.
type outcome struct {
	bytes  []byte
	ints   map[string][]int
	edits  map[string][]tape.Edit
	takes  map[string][]tape.Take
	frames [][]tape.Take
	needs  []tape.Need
	spans  []api.Span
	pulled [][2]int
	labels []code.Label
	rest   []any
}

// all returns the results of all functions.
func all(t *testing.T, k kept) outcome {
	t.Helper()
	o := outcome{ints: map[string][]int{}, edits: map[string][]tape.Edit{}, takes: map[string][]tape.Take{}}
	var e api.Errno
	c := tape.Reel{Name: "c", First: 1, Checks: k.checks}
	o.bytes = must[[]byte](t)(tape.Taped(c))
	o.ints["Read"] = must[tape.Reel](t)(tape.Read(k.stream)).Checks
	rebuilt, whole, e := tape.Rebuilt(k.stream)
	o.ints["Rebuilt"] = rebuilt.Checks
	want(t, "Rebuilt", results(whole, e), true, api.OK)
	o.ints["Starts"], _, e = tape.Starts(k.reels, k.list)
	want(t, "Starts", results(e), api.OK)
	o.ints["Played"] = must[[]int](t)(tape.Played(k.reels, k.list))
	o.ints["Traced"] = must[[]int](t)(tape.Traced(k.reels, k.list, take("b", 51, 1, 1)))
	o.frames = must[[][]tape.Take](t)(tape.Conformed(k.reels, k.list))
	o.takes["Sounds"] = must[[]tape.Take](t)(tape.Sounds(k.reels, k.list))
	o.needs = must[[]tape.Need](t)(tape.Needed(k.reels, k.list))
	o.edits["Trimmed"] = must[[]tape.Edit](t)(tape.Trimmed(k.reels, k.list, 0, 1))
	o.edits["Rolled"] = must[[]tape.Edit](t)(tape.Rolled(k.reels, k.list, 2, 0))
	o.edits["Slipped"] = must[[]tape.Edit](t)(tape.Slipped(k.reels, k.list, 2, 0))
	o.edits["Joined"] = must[[]tape.Edit](t)(tape.Joined(k.reels, k.list, k.other))
	o.edits["Joined to none"] = must[[]tape.Edit](t)(tape.Joined(k.reels, nil, k.other))
	o.edits["Parted"], o.edits["from there on"], e = tape.Parted(k.reels, k.list, 5)
	want(t, "Parted", results(e), api.OK)
	o.edits["Parted at the end"], _, e = tape.Parted(k.reels, k.list, 6)
	want(t, "Parted", results(e), api.OK)
	o.spans = must[[]api.Span](t)(tape.Differences(k.reels, k.list, k.other))
	o.pulled = must[[][2]int](t)(tape.Converted(k.reels, k.list, k.repeats))
	o.labels = must[[]code.Label](t)(tape.Labels(k.reels, k.list, stamp(code.Rate{Frames: 25}, 1, 2, 3, 4)))
	text := must[string](t)(tape.Print(k.list))
	o.edits["Parse"], _, e = tape.Parse(text)
	o.rest = results(text, e, tape.CheckReel(c), tape.CheckReels(k.reels), tape.CheckEdits(k.reels, k.list))
	return o
}

// spoil changes the memory of all lists.
func (o outcome) spoil() {
	clobber(o.bytes, 77)
	for _, l := range o.ints {
		clobber(l, 77)
	}
	for _, l := range o.edits {
		clobber(l, edit("spoiled", 7, 7, 7, 7))
	}
	for _, l := range append(slices.Clone(o.frames), o.takes["Sounds"]) {
		clobber(l, take("spoiled", 7, 7, 7))
	}
	clobber(o.needs, tape.Need{Reel: "spoiled"})
	clobber(o.spans, span(7, 7))
	clobber(o.pulled, [2]int{7, 7})
	clobber(o.labels, code.Label{Hours: 7})
}

// Arguments are neither changed nor kept, and results share no memory with them or with each other.
func TestMemory(t *testing.T) {
	k := arguments()
	first := results(all(t, k))
	for range 2 {
		o := all(t, k)
		want(t, "results", results(o), first...)
		if len(o.ints) != 5 || len(o.edits) != 9 || len(o.frames) != 6 || len(o.takes["Sounds"]) != 6 || len(o.needs) != 2 || len(o.spans) != 1 || len(o.pulled) != 7 || len(o.labels) != 3 {
			t.Errorf("%+v", o)
		}
		o.spoil()
		want(t, "arguments", results(k), arguments())
		want(t, "behind them", results(k.stream[:60][len(k.stream):], k.checks[:60][2:], k.reels[:60][2:], k.reels[0].Checks[:60][6:], k.list[:60][3:], k.other[:60][2:], k.repeats[:60][2:]), make([]byte, 60-len(k.stream)), make([]int, 58), make([]tape.Reel, 58), make([]int, 54), make([]tape.Edit, 57), make([]tape.Edit, 58), make([]int, 58))
	}
	o := all(t, k)
	for _, r := range k.reels {
		clobber(r.Checks, 77)
	}
	clobber(k.stream, 77)
	clobber(k.checks, 77)
	clobber(k.reels, tape.Reel{})
	clobber(k.list, tape.Edit{})
	clobber(k.other, tape.Edit{})
	clobber(k.repeats, 77)
	want(t, "results after a change of the arguments", results(o), all(t, arguments()))
}

// The results of one call share no memory with each other.
func TestMemoryOfResults(t *testing.T) {
	l := exampleEdits()
	frames := must[[][]tape.Take](t)(tape.Conformed(exampleReels(), l))
	for i := range frames {
		_ = append(frames[i], take("spoiled", 7, 7, 7))
		clobber(frames[i], take("spoiled", 7, 7, 7))
		for j := i + 1; j < len(frames); j++ {
			want(t, results(i, j), results(frames[j]), must[[][]tape.Take](t)(tape.Conformed(exampleReels(), l))[j])
		}
	}
	divided := edits(edit("a", 11, 15, 0, 0))
	a, b, e := tape.Parted(exampleReels(), divided, 2)
	clobber(a, tape.Edit{})
	want(t, divided, results(b, e), edits(edit("a", 13, 15, 0, 0)), api.OK)
}

// strange are numbers of all kinds.
func strange() []int {
	return []int{math.MinInt, math.MinInt + 1, -1 << 32, -10000001, -101, -30, -1, 0, 1, 2, 3, 7, 10, 11, 14, 16, 50, 54, 100, 256, 1024, 65535, 10000000, 1 << 32, 1 << 61, math.MaxInt - 1, math.MaxInt}
}

// P1: no function panics, for strange arguments.
func TestAllArguments(t *testing.T) {
	d := dice(30)
	some := func() int { return strange()[d.below(len(strange()))] }
	names := []string{"a", "b", "c", "", "\xff", "1"}
	name := func() string { return names[d.below(len(names))] }
	for range 20000 {
		reels := exampleReels()
		if d.below(2) == 0 {
			reels = append(reels, reel(name(), some(), some(), some()))[d.below(3):]
		}
		list := func() []tape.Edit {
			l := exampleEdits()
			for i := range l {
				if d.below(2) == 0 {
					*[]*int{&l[i].In, &l[i].Out, &l[i].Fade, &l[i].Sound}[d.below(4)] = some()
				}
				if d.below(4) == 0 {
					l[i].Reel = name()
				}
			}
			return l[d.below(4):]
		}
		l := list()
		tape.CheckReel(reel(name(), some(), some()))
		tape.Taped(reel(name(), some(), some()))
		tape.CheckReels(reels)
		tape.CheckEdits(reels, l)
		tape.Starts(reels, l)
		tape.Conformed(reels, l)
		tape.Sounds(reels, l)
		tape.Played(reels, l)
		tape.Traced(reels, l, take(name(), some(), some(), some()))
		tape.Needed(reels, l)
		tape.Trimmed(reels, l, some(), some())
		tape.Trimmed(reels, exampleEdits(), d.below(4), some())
		tape.Rolled(reels, l, some(), some())
		tape.Rolled(reels, exampleEdits(), d.below(4), some())
		tape.Slipped(reels, l, some(), some())
		tape.Slipped(reels, exampleEdits(), d.below(4), some())
		tape.Joined(reels, l, list())
		tape.Parted(reels, l, some())
		tape.Parted(reels, exampleEdits(), some())
		tape.Differences(reels, l, list())
		tape.Converted(reels, l, []int{some(), some()}[d.below(3):])
		tape.Labels(reels, l, code.Stamp{Rate: code.Rate{Frames: some()}, Label: code.Label{Hours: some()}, User: some()})
		tape.Print(l)
	}
}

// P1: no stream is read with a panic, and what is rebuilt of it is a reel.
func TestAllStreams(t *testing.T) {
	d := dice(31)
	rebuilt := 0
	for range 20000 {
		s := streamOf(d.anyReel(4))
		if d.below(4) == 0 {
			s = slices.Concat(s[:d.below(len(s)+1)], s[d.below(len(s)+1):])
		}
		for range d.below(4) {
			if len(s) > 0 {
				s[d.below(len(s))] = []byte{0, 1, 69, 70, 255, byte(d.below(256))}[d.below(6)]
			}
		}
		r, e := tape.Read(s)
		left, whole, wrong := tape.Rebuilt(s)
		switch {
		case e == api.OK:
			want(t, s, results(tape.Taped(r)), s, api.OK)
			want(t, s, results(left, whole, wrong), r, true, api.OK)
		case wrong == api.OK:
			rebuilt++
			want(t, s, results(r, whole, tape.CheckReel(left)), tape.Reel{}, false, api.OK)
			again := must[[]byte](t)(tape.Taped(left))
			want(t, s, results(s[:len(again)-5]), again[:len(again)-5])
		default:
			want(t, s, results(r, left, whole), tape.Reel{}, tape.Reel{}, false)
		}
	}
	if rebuilt < 1000 {
		t.Errorf("only %d", rebuilt)
	}
}

// The same arguments have the same results.
func TestSameResults(t *testing.T) {
	d := dice(32)
	for range 100 {
		reels := d.reels()
		l := d.list(reels, 16)
		needs, e := tape.Needed(reels, l)
		for range 5 {
			want(t, l, results(tape.Needed(reels, l)), needs, e)
		}
	}
}
