package tape

import (
	"iter"
	"slices"

	"genlock/api"
	"genlock/common"
)

// Take is a frame of a reel with its part.
type Take struct {
	Reel  string
	Frame int
	Part  api.Ratio
}

// Need is frames of a reel.
type Need struct {
	Reel string
	Span api.Span
}

// frame is what is seen and heard at a frame of a list.
type frame struct {
	seen  []Take
	heard Take
}

// Conformed returns the takes of each frame.
func Conformed(reels []Reel, l []Edit) ([][]Take, api.Errno) {
	if e := CheckEdits(reels, l); e != api.OK {
		return nil, e
	}
	return each(l, func(f frame) []Take { return f.seen }), api.OK
}

// Sounds returns the take of the sound at each frame.
func Sounds(reels []Reel, l []Edit) ([]Take, api.Errno) {
	if e := CheckEdits(reels, l); e != api.OK {
		return nil, e
	}
	return each(l, func(f frame) Take { return f.heard }), api.OK
}

// Played returns the mixed checks of all frames.
func Played(reels []Reel, l []Edit) ([]int, api.Errno) {
	if e := CheckEdits(reels, l); e != api.OK {
		return nil, e
	}
	known := named(reels)
	return each(l, func(f frame) int { return f.mixed(known) }), api.OK
}

// Traced returns the frames at which a frame of a reel is seen.
func Traced(reels []Reel, l []Edit, t Take) ([]int, api.Errno) {
	if e := common.First(CheckEdits(reels, l), takeError(reels, t)); e != api.OK {
		return nil, e
	}
	return common.Indices(slices.Collect(frames(l)), func(_ int, f frame) bool {
		return slices.ContainsFunc(f.seen, t.isSame)
	}), api.OK
}

// Needed returns the frames of reels that a list needs.
func Needed(reels []Reel, l []Edit) ([]Need, api.Errno) {
	if e := CheckEdits(reels, l); e != api.OK {
		return nil, e
	}
	used := map[Take]bool{}
	for f := range frames(l) {
		for _, t := range append(f.seen, f.heard) {
			used[t.whole()] = true
		}
	}
	var needs []Need
	for _, r := range reels {
		isUsed := func(i, _ int) bool { return used[newTake(r.Name, r.First+i, 1, 1)] }
		for _, s := range spansOf(common.Indices(r.Checks, isUsed)) {
			needs = append(needs, Need{Reel: r.Name, Span: api.Span{From: r.First + s.From, To: r.First + s.To}})
		}
	}
	return needs, api.OK
}

// Differences returns the spans of frames at which two lists show something else.
func Differences(reels []Reel, a, b []Edit) ([]api.Span, api.Errno) {
	if e := common.First(CheckEdits(reels, a), CheckEdits(reels, b)); e != api.OK {
		return nil, e
	}
	first, second := slices.Collect(frames(a)), slices.Collect(frames(b))
	both := min(len(first), len(second))
	var apart []int
	for t := range max(len(first), len(second)) {
		if t >= both || first[t].differs(second[t]) {
			apart = append(apart, t)
		}
	}
	return spansOf(apart), api.OK
}

// frames visits the frames of a list without an error.
func frames(l []Edit) iter.Seq[frame] {
	return func(yield func(frame) bool) {
		places, length := place(l)
		for t := range length {
			if !yield(frame{seen: seenAt(places, t), heard: heardAt(places, t)}) {
				return
			}
		}
	}
}

// each returns what becomes of each frame of a list.
func each[T any](l []Edit, change func(frame) T) []T {
	var changed []T
	for f := range frames(l) {
		changed = append(changed, change(f))
	}
	return changed
}

// seenAt returns the takes that are seen at a frame of a list.
func seenAt(l []placed, t int) []Take {
	at := slices.IndexFunc(l, func(p placed) bool { return t < p.seen.To })
	p := l[at]
	own, faded := p.source(t), t-p.begin()
	if faded >= p.Fade {
		return []Take{newTake(p.Reel, own, 1, 1)}
	}
	before := l[at-1]
	return []Take{
		newTake(before.Reel, before.Out+faded, p.Fade-faded, p.Fade+1),
		newTake(p.Reel, own, faded+1, p.Fade+1),
	}
}

// heardAt returns what is heard at a frame of a list.
func heardAt(l []placed, t int) Take {
	p := l[slices.IndexFunc(l, func(p placed) bool { return t < p.heard.To })]
	return newTake(p.Reel, p.source(t), 1, 1)
}

// newTake returns a frame of a reel with the part num / den.
func newTake(reel string, frame, num, den int) Take {
	return Take{Reel: reel, Frame: frame, Part: common.Ratio(num, den)}
}

// whole returns a take with the part 1.
func (t Take) whole() Take {
	return newTake(t.Reel, t.Frame, 1, 1)
}

// isSame reports whether another take has the same frame of the same reel, with whatever part.
func (t Take) isSame(other Take) bool {
	return t.whole() == other.whole()
}

// mixed returns the mixed check of a frame. The parts of its takes, at most two, add up to 1, so that they have one denominator.
func (f frame) mixed(known map[string]Reel) int {
	sum := 0
	for _, t := range f.seen {
		sum += t.Part.Num * known[t.Reel].check(t.Frame)
	}
	return common.Nearest(sum, f.seen[0].Part.Den)
}

// differs reports whether something else is seen or heard at another frame.
func (f frame) differs(other frame) bool {
	return f.heard != other.heard || !slices.Equal(f.seen, other.seen)
}
