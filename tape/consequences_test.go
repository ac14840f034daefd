package tape_test

import (
	"slices"
	"testing"

	"genlock/api"
	"genlock/tape"
)

// P8.5 and P8: a reel comes back from its stream, and no other one has this stream.
func TestReelsComeBack(t *testing.T) {
	d := dice(10)
	streams := map[string]tape.Reel{}
	for range 500 {
		r := d.anyReel(256)
		s := must[[]byte](t)(tape.Taped(r))
		want(t, r, results(tape.Read(s)), r, api.OK)
		want(t, r, results(tape.Rebuilt(s)), r, true, api.OK)
		if other, known := streams[string(s)]; known {
			want(t, "reels with one stream", results(other), r)
		}
		streams[string(s)] = r
	}
}

// P8.5 and P8: a stream that is cut off keeps all frames whose records are whole.
func TestCutOffStreams(t *testing.T) {
	d := dice(11)
	for range 100 {
		r := d.anyReel(12)
		s := must[[]byte](t)(tape.Taped(r))
		before := len(head(r.Name, r.First))
		for size := range s {
			cut := s[:size]
			want(t, cut, results(tape.Read(cut)), tape.Reel{}, api.ErrTorn)
			left := r
			left.Checks = r.Checks[:min(max(size-before, 0)/5, len(r.Checks))]
			switch {
			case size < before:
				want(t, cut, results(tape.Rebuilt(cut)), tape.Reel{}, false, api.ErrTorn)
			case len(left.Checks) == 0:
				want(t, cut, results(tape.Rebuilt(cut)), tape.Reel{}, false, api.ErrEmpty)
			default:
				want(t, cut, results(tape.Rebuilt(cut)), left, false, api.OK)
			}
		}
	}
}

// P8.5 and P8: one byte that is changed in a record loses its frame and those after it alone.
func TestChangedBytes(t *testing.T) {
	d := dice(12)
	for range 40 {
		r := d.anyReel(8)
		s := must[[]byte](t)(tape.Taped(r))
		before := len(head(r.Name, r.First))
		for at := before; at < len(s); at++ {
			for range 8 {
				damaged := changed(s, at, s[at]+byte(1+d.below(255)))
				if _, e := tape.Read(damaged); e == api.OK {
					t.Errorf("%v is read as %v", damaged, r)
				}
				left := r
				left.Checks = r.Checks[:min((at-before)/5, len(r.Checks))]
				if len(left.Checks) == 0 {
					want(t, damaged, results(tape.Rebuilt(damaged)), tape.Reel{}, false, api.ErrEmpty)
					continue
				}
				want(t, damaged, results(tape.Rebuilt(damaged)), left, false, api.OK)
			}
		}
	}
	one := reel("c", 0, 258)
	s := streamOf(one)
	for b := range 256 {
		for at := 10; at < 15; at++ {
			if byte(b) != s[at] {
				want(t, results(at, b), results(tape.Rebuilt(changed(s, at, byte(b)))), tape.Reel{}, false, api.ErrEmpty)
			}
		}
	}
}

// P8.5 and P8: each frame of a list has parts that add up to 1, and a frame without a fade is just its frame of its reel.
func TestPartsAddUp(t *testing.T) {
	d := dice(13)
	faded := 0
	for range 1000 {
		reels := d.reels()
		l := d.list(reels, 16)
		starts, length, e := tape.Starts(reels, l)
		want(t, l, results(e), api.OK)
		all := must[[][]tape.Take](t)(tape.Conformed(reels, l))
		played := must[[]int](t)(tape.Played(reels, l))
		want(t, l, results(len(all), len(played), len(must[[]tape.Take](t)(tape.Sounds(reels, l)))), length, length, length)
		for i, x := range l {
			for j := range x.Out - x.In {
				seen := all[starts[i]+j]
				own := seen[len(seen)-1]
				want(t, results(l, i, j), results(own.Reel, own.Frame), x.Reel, x.In+j)
				if j >= x.Fade {
					r, _ := find(reels, x.Reel)
					want(t, results(l, i, j), results(seen, played[starts[i]+j]), []tape.Take{take(x.Reel, x.In+j, 1, 1)}, r.Checks[x.In+j-r.First])
					continue
				}
				faded++
				want(t, results(l, i, j), results(len(seen), seen[0].Reel, seen[0].Frame), 2, l[i-1].Reel, l[i-1].Out+j)
				a, b := seen[0].Part, seen[1].Part
				want(t, results(l, i, j, a, b), results(ratio(a.Num*b.Den+b.Num*a.Den, a.Den*b.Den), ratio(a.Num, a.Den), ratio(b.Num, b.Den), b), api.Ratio{Num: 1, Den: 1}, a, b, ratio(j+1, x.Fade+1))
			}
		}
	}
	if faded < 1000 {
		t.Errorf("only %d", faded)
	}
}

// P8.5: what is traced is what is conformed, and a list needs just what is seen or heard.
func TestTracedIsConformed(t *testing.T) {
	d := dice(14)
	for range 300 {
		reels := d.reels()
		l := d.list(reels, 8)
		all := must[[][]tape.Take](t)(tape.Conformed(reels, l))
		heard := map[tape.Take]bool{}
		for _, x := range must[[]tape.Take](t)(tape.Sounds(reels, l)) {
			heard[x] = true
		}
		for _, r := range reels {
			r.Checks = r.Checks[:min(len(r.Checks), 40)]
			for n := r.First; n < r.First+len(r.Checks); n++ {
				var frames []int
				for at, seen := range all {
					if slices.ContainsFunc(seen, func(x tape.Take) bool { return x.Reel == r.Name && x.Frame == n }) {
						frames = append(frames, at)
					}
				}
				want(t, results(l, r.Name, n), results(tape.Traced(reels, l, take(r.Name, n, 1, 1))), frames, api.OK)
				needed := slices.ContainsFunc(must[[]tape.Need](t)(tape.Needed(reels, l)), func(x tape.Need) bool { return x.Reel == r.Name && x.Span.From <= n && n < x.Span.To })
				want(t, results(l, r.Name, n), results(needed), len(frames) > 0 || heard[take(r.Name, n, 1, 1)])
			}
		}
	}
}

// P8.5: a list that needs certain frames alone is the same on reels that have no others.
func TestNeededIsEnough(t *testing.T) {
	d := dice(15)
	for range 300 {
		reels := d.reels()
		l := d.list(reels, 8)
		var least []tape.Reel
		for _, n := range must[[]tape.Need](t)(tape.Needed(reels, l)) {
			r, _ := find(reels, n.Reel)
			if last := len(least) - 1; last >= 0 && least[last].Name == n.Reel { // from the first span to the last one
				least[last].Checks = r.Checks[least[last].First-r.First : n.Span.To-r.First]
				continue
			}
			least = append(least, reel(n.Reel, n.Span.From, r.Checks[n.Span.From-r.First:n.Span.To-r.First]...))
		}
		want(t, results(reels, l), results(tape.Played(least, l)), must[[]int](t)(tape.Played(reels, l)), api.OK)
		for i := range least {
			short := slices.Clone(least)
			short[i].Checks = short[i].Checks[1:]
			short[i].First++
			if _, e := tape.Played(short, l); e == api.OK {
				t.Errorf("%+v does not need %d of %s", l, short[i].First-1, short[i].Name)
			}
		}
	}
}

// P8.5: what is trimmed, rolled or slipped there and back is the same, and rolled lists have the same length.
func TestThereAndBack(t *testing.T) {
	d := dice(16)
	done := map[string]int{}
	for range 6000 {
		reels := d.reels()
		l := d.list(reels, 6)
		c := changers()[d.below(3)]
		at, by := d.below(6), d.between(-4, 4)
		once, e := c.call(reels, l, at, by)
		if e != api.OK {
			continue
		}
		done[c.name]++
		want(t, results(c.name, l, at, by), results(c.call(reels, once, at, -by)), l, api.OK)
		_, before, _ := tape.Starts(reels, l)
		_, after, _ := tape.Starts(reels, once)
		longer := 0
		if c.name == "Trimmed" {
			longer = by
		}
		want(t, results(c.name, l, at, by), results(after), before+longer)
	}
	if done["Trimmed"] < 300 || done["Rolled"] < 300 || done["Slipped"] < 300 {
		t.Errorf("%v", done)
	}
}

// P8.5: a list that is parted and joined shows the same frames, and the parts are as long as it is told.
func TestPartedAndJoined(t *testing.T) {
	d := dice(17)
	divided := 0
	for range 1500 {
		reels := d.reels()
		l := d.list(reels, 6)
		_, length, _ := tape.Starts(reels, l)
		at := d.between(0, length)
		a, b, e := tape.Parted(reels, l, at)
		if e != api.OK {
			continue
		}
		_, first, _ := tape.Starts(reels, a)
		_, second, _ := tape.Starts(reels, b)
		want(t, results(l, at), results(first, second), at, length-at)
		joined := must[[]tape.Edit](t)(tape.Joined(reels, a, b))
		want(t, results(l, at), results(tape.Conformed(reels, joined)), must[[][]tape.Take](t)(tape.Conformed(reels, l)), api.OK)
		want(t, results(l, at), results(tape.Sounds(reels, joined)), must[[]tape.Take](t)(tape.Sounds(reels, l)), api.OK)
		want(t, results(l, at), results(tape.Differences(reels, l, joined)), []api.Span{}, api.OK)
		divided += len(joined) - len(l)
	}
	if divided < 100 {
		t.Errorf("only %d", divided)
	}
}

// P8.5: two lists that are joined are parted again where the second one begins.
func TestJoinedAndParted(t *testing.T) {
	d := dice(18)
	done := 0
	for range 500 {
		reels := d.reels()
		a, b := d.list(reels, 5), d.list(reels, 5)
		joined, e := tape.Joined(reels, a, b)
		if e != api.OK {
			continue
		}
		done++
		_, length, _ := tape.Starts(reels, a)
		want(t, results(a, b), results(tape.Parted(reels, joined, length)), a, b, api.OK)
	}
	if done < 100 {
		t.Errorf("only %d", done)
	}
}

// P8.5: a list does not differ from itself, and lists differ where what they show is not the same.
func TestSameLists(t *testing.T) {
	d := dice(19)
	for range 1000 {
		reels := d.reels()
		l, other := d.list(reels, 10), d.list(reels, 3)
		want(t, l, results(tape.Differences(reels, l, slices.Clone(l))), []api.Span{}, api.OK)
		longer := must[[]api.Span](t)(tape.Differences(reels, l, other))
		_, a, _ := tape.Starts(reels, l)
		_, b, _ := tape.Starts(reels, other)
		if a != b && (len(longer) == 0 || longer[len(longer)-1].To != max(a, b)) {
			t.Errorf("%+v and %+v: %v", l, other, longer)
		}
	}
}

// P8.5 and P8: lists are parsed as they were printed, and no two have one text.
func TestParsedAsPrinted(t *testing.T) {
	d := dice(20)
	texts := map[string][]tape.Edit{}
	for range 3000 {
		l := d.list(d.reels(), 16)
		if d.below(2) == 0 {
			for i := range l {
				l[i] = edit(l[i].Reel+"_x", d.between(-999999999, 999999999), d.between(-99, 99), d.between(-9, 9), d.between(-999999999, 0))
			}
		}
		text := must[string](t)(tape.Print(l))
		want(t, text, results(tape.Parse(text)), l, 0, api.OK)
		if other, known := texts[text]; known && !slices.Equal(other, l) {
			t.Errorf("%+v and %+v have the text %s", l, other, text)
		}
		texts[text] = l
	}
}

// P8.5 and P8: an edit list conforms to exactly its frames: one with a frame that no reel has is not conformed.
func TestNoFrameIsMadeUp(t *testing.T) {
	d := dice(21)
	for range 500 {
		reels := d.reels()
		l := d.list(reels, 6)
		for _, x := range must[[]tape.Need](t)(tape.Needed(reels, l)) {
			short := slices.Clone(reels)
			for i, r := range short {
				if r.Name == x.Reel {
					short[i].Checks = r.Checks[:x.Span.To-1-r.First]
				}
			}
			frames, e := tape.Conformed(short, l)
			if len(frames) > 0 || e == api.OK {
				t.Errorf("%+v is conformed without the last frame of %+v", l, x)
			}
		}
	}
}
