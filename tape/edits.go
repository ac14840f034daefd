package tape

import (
	"slices"

	"genlock/api"
	"genlock/common"
)

// Edit is frames of a reel, the length of its fade, and by how much its sound begins later.
type Edit struct {
	Reel  string
	In    int
	Out   int
	Fade  int
	Sound int
}

// placed is an edit in its list: the frames of the list from which and before which it is seen, and heard. If its sound begins too late, or that of the next edit too early, it is heard at none.
type placed struct {
	Edit
	seen  api.Span
	heard api.Span
}

// CheckEdits returns the first error of reels and an edit list, or OK.
func CheckEdits(reels []Reel, l []Edit) api.Errno {
	if e := common.First(CheckReels(reels), common.ErrorIf(len(l) > MaxEdits, api.ErrMany)); e != api.OK {
		return e
	}
	known := named(reels)
	places, length := place(l)
	return common.First(
		editsError(known, l),
		common.ErrorIf(length > MaxRecord, api.ErrLarge),
		common.ErrorIf(slices.ContainsFunc(places, placed.isSilent), api.ErrOrder),
		common.FirstOf(places, func(p placed) api.Errno {
			return common.ErrorIf(!known[p.Reel].has(p.sound()), api.ErrShort)
		}),
	)
}

// Starts returns the frames at which edits begin, and the length of the list.
func Starts(reels []Reel, l []Edit) ([]int, int, api.Errno) {
	if e := CheckEdits(reels, l); e != api.OK {
		return nil, 0, e
	}
	places, length := place(l)
	return common.Mapped(places, placed.begin), length, api.OK
}

// place returns the edits of a list with their places, and the length of the list.
func place(l []Edit) ([]placed, int) {
	length := 0
	places := common.Mapped(l, func(e Edit) placed {
		begin := length
		length += e.length()
		return placed{Edit: e, seen: api.Span{From: begin, To: length}}
	})
	end := length
	for i, p := range slices.Backward(places) { // a sound ends where the next one begins
		begin := p.begin() + p.Sound
		places[i].heard = api.Span{From: begin, To: end}
		end = begin
	}
	return places, length
}

// editsError returns the error of the first edit that has one, by itself or by the edit before it, or OK.
func editsError(known map[string]Reel, l []Edit) api.Errno {
	for i, edit := range l {
		r, found := known[edit.Reel]
		e := common.First(
			common.ErrorIf(!found, api.ErrUnknown),
			common.ErrorIf(edit.In >= edit.Out || !r.has(edit.span()), api.ErrSpan),
			common.Outside(edit.Fade, 0, edit.length()),
			common.Outside(edit.Sound, -MaxSound, MaxSound),
			joinError(known, l[:i], edit),
		)
		if e != api.OK {
			return e
		}
	}
	return api.OK
}

// joinError returns the error of an edit behind those before it, or OK.
func joinError(known map[string]Reel, before []Edit, e Edit) api.Errno {
	if len(before) == 0 {
		return common.ErrorIf(e.Fade != 0 || e.Sound != 0, api.ErrRule)
	}
	last := before[len(before)-1]
	faded := api.Span{From: last.Out, To: last.Out + e.Fade}
	return common.ErrorIf(!known[last.Reel].has(faded), api.ErrShort)
}

// takeError returns the error of a take of reels, or OK.
func takeError(reels []Reel, t Take) api.Errno {
	r, found := named(reels)[t.Reel]
	return common.First(
		common.ErrorIf(!found, api.ErrUnknown),
		common.ErrorIf(!r.hasFrame(t.Frame), api.ErrSpan),
	)
}

// length returns how many frames an edit takes.
func (e Edit) length() int {
	return e.Out - e.In
}

// span returns the frames that an edit takes.
func (e Edit) span() api.Span {
	return api.Span{From: e.In, To: e.Out}
}

// begin returns the frame at which an edit begins.
func (p placed) begin() int {
	return p.seen.From
}

// isSilent reports whether an edit is heard at no frame.
func (p placed) isSilent() bool {
	return p.heard.From >= p.heard.To
}

// source returns the frame of the reel that an edit has at a frame of the list.
func (p placed) source(frame int) int {
	return p.In + frame - p.begin()
}

// sound returns the frames of the reel that are heard.
func (p placed) sound() api.Span {
	return api.Span{From: p.source(p.heard.From), To: p.source(p.heard.To)}
}
