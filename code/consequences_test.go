package code_test

import (
	"slices"
	"testing"

	"genlock/api"
	"genlock/code"
)

// before reports whether a label is before another one.
func before(a, b code.Label) bool {
	return slices.Compare([]int{a.Hours, a.Minutes, a.Seconds, a.Frames}, []int{b.Hours, b.Minutes, b.Seconds, b.Frames}) < 0
}

// P7.6 and P7: labels and frames correspond one to one, in the same order, and the label after the last one is the first one.
func TestLabelsAreFrames(t *testing.T) {
	d := dice(20)
	for _, r := range rates() {
		whole := must[int](t)(code.Day(r))
		last := must[code.Label](t)(code.LabelOf(r, whole-1))
		want(t, r, results(code.Added(r, last, 1)), label(0, 0, 0, 0), api.OK)
		want(t, r, results(code.Added(r, label(0, 0, 0, 0), -1)), last, api.OK)
		for range 20000 {
			frame, other := d.between(0, whole-1), d.between(0, whole-1)
			if d.below(4) == 0 {
				other = min(frame+1, whole-1)
			}
			a, b := must[code.Label](t)(code.LabelOf(r, frame)), must[code.Label](t)(code.LabelOf(r, other))
			want(t, results(r, frame), results(code.Frame(r, a)), frame, api.OK)
			want(t, results(r, frame, other), results(before(a, b), before(b, a), a == b), frame < other, other < frame, frame == other)
			want(t, results(r, frame, other), results(code.Added(r, a, other-frame)), b, api.OK)
			l := d.label(r)
			want(t, results(r, l), results(code.LabelOf(r, must[int](t)(code.Frame(r, l)))), l, api.OK)
		}
	}
}

// P7.6: labels that are later by two numbers are later by their sum.
func TestLaterAndLater(t *testing.T) {
	d := dice(21)
	for range 5000 {
		r := rates()[d.below(4)]
		l, a, b := d.label(r), d.between(-5000000, 5000000), d.between(-5000000, 5000000)
		once := must[code.Label](t)(code.Added(r, l, a))
		want(t, results(r, l, a, b), results(code.Added(r, once, b)), must[code.Label](t)(code.Added(r, l, a+b)), api.OK)
		want(t, results(r, l, a), results(code.Added(r, once, -a)), l, api.OK)
		want(t, results(r, l), results(code.Added(r, l, 0)), l, api.OK)
	}
}

// P7.6 and P7: a stamp is read from its word, and from the word of no other one.
func TestWordsAreStamps(t *testing.T) {
	d := dice(22)
	words := map[[10]byte]code.Stamp{}
	for range 20000 {
		s := d.stamp()
		w := must[[10]byte](t)(code.Written(s))
		want(t, s, results(code.Read(w)), s, api.OK)
		if other, known := words[w]; known && other != s {
			t.Errorf("%+v and %+v have the word %v", s, other, w)
		}
		words[w] = s
	}
	read := 0
	for range 100000 {
		head := [7]byte(d.bytes(7, 0, 255))
		for i := range 4 {
			head[i] = byte(d.below(6)*16 + d.below(10))
		}
		head[4] = []byte{24, 25, 30, 158}[d.below(4)]
		w := packed(head, 0)
		if s, e := code.Read(w); e == api.OK {
			read++
			want(t, w, results(code.Written(s)), w, api.OK)
		}
	}
	if read < 1000 {
		t.Errorf("only %d words", read)
	}
}

// rows returns stamps that follow, and their words in a row.
func (d *dice) rows(t *testing.T, n int) ([]code.Stamp, []byte) {
	var l []code.Stamp
	var s []byte
	next := d.stamp()
	for range n {
		l = append(l, next)
		w := must[[10]byte](t)(code.Written(next))
		s = append(s, w[:]...)
		next.Label = must[code.Label](t)(code.Added(next.Rate, next.Label, 1))
		next.User = []int{0, 63<<8 + 253, 63, 253 << 8, d.between(0, 65535)}[d.below(5)]
	}
	return l, s
}

// P7.6 and P7: words in a row are all found, from whatever byte on, and in a stream that was reversed twice; and their stamps do not jump.
func TestWordsInARow(t *testing.T) {
	d := dice(23)
	for range 300 {
		l, s := d.rows(t, 1+d.below(12))
		want(t, l, results(code.Jumps(l)), []int{}, api.OK)
		for from := range len(s) {
			var at []int
			for i := range l {
				if 10*i >= from {
					at = append(at, 10*i-from)
				}
			}
			want(t, results(l, from), results(code.Found(s[from:])), l[(from+9)/10:], at, api.OK)
		}
		back := must[[]byte](t)(code.Reversed(s))
		again := must[[]byte](t)(code.Reversed(back))
		want(t, l, results(again), s)
		stamps, _, e := code.Found(again)
		want(t, l, results(stamps, e), l, api.OK)
		for i := range s {
			for bit := range 8 {
				if s[i]>>bit&1 != back[len(s)-1-i]>>(7-bit)&1 {
					t.Fatalf("%v is reversed to %v", s, back)
				}
			}
		}
	}
	l, s := d.rows(t, 400)
	stamps, at, e := code.Found(s)
	want(t, "400 words", results(stamps, at[0], at[399], e), l, 0, 3990, api.OK)
}

// P7.6: a word with one wrong bit is none, and the words beside it are found.
func TestWrongBits(t *testing.T) {
	d := dice(24)
	for range 200 {
		l, s := d.rows(t, 3)
		for at := 10; at < 20; at++ {
			for bit := range 8 {
				damaged := slices.Clone(s)
				damaged[at] ^= 1 << bit
				if stamp, e := code.Read([10]byte(damaged[10:])); e == api.OK {
					t.Errorf("%v is the word of %+v", damaged[10:20], stamp)
				}
				want(t, damaged, results(code.Found(damaged)), []code.Stamp{l[0], l[2]}, []int{0, 20}, api.OK)
			}
		}
	}
}

// P7.6: a number of frames is found again, but for frames of which nothing is left.
func TestFramesAreFoundAgain(t *testing.T) {
	d := dice(25)
	lost := 0
	for range 2000 {
		repeats, frames := d.cadence(), d.between(0, 256)
		l := must[[][2]int](t)(code.Pulled(repeats, frames))
		left := map[int]bool{}
		for _, pair := range l {
			left[pair[0]], left[pair[1]] = true, true
		}
		want(t, results(repeats, frames), results(code.Undone(repeats, l)), len(left), api.OK)
		want(t, results(repeats, frames), results(code.Pulled(repeats, len(left))), l, api.OK)
		for i := range len(left) {
			if !left[i] {
				t.Errorf("%v, %d: the frame %d is lost", repeats, frames, i)
			}
		}
		lost += frames - len(left)
		if len(left) < frames-1 {
			t.Errorf("%v, %d: got %v", repeats, frames, l)
		}
	}
	if lost < 100 {
		t.Errorf("only %d", lost)
	}
}

// P7.6: the screen changes at the ends of captions alone.
func TestScreenChangesAtEnds(t *testing.T) {
	d := dice(26)
	for range 200 {
		l := d.captions(d.below(33))
		ends := map[int]bool{}
		for _, c := range l {
			ends[c.Show.From], ends[c.Show.To] = true, true
		}
		changes := must[[]int](t)(code.Changes(l))
		last := must[[8]string](t)(code.Shown(nil, 0))
		for frame := range 100 {
			now := must[[8]string](t)(code.Shown(l, frame))
			changed := slices.Contains(changes, frame)
			if changed && !ends[frame] || changed == (now == last) {
				t.Errorf("%+v: at %d, %v", l, frame, changes)
			}
			last = now
		}
		if !slices.IsSorted(changes) {
			t.Errorf("%v", changes)
		}
	}
}

// P7.6: what is added to captions, and is not shown at a frame, does not change the screen there.
func TestScreenAtOtherFrames(t *testing.T) {
	d := dice(27)
	for range 500 {
		l := d.captions(10)
		frame := d.below(40)
		shown := slices.DeleteFunc(slices.Clone(l), func(c code.Caption) bool { return frame < c.Show.From || frame >= c.Show.To })
		want(t, results(l, frame), results(code.Shown(l, frame)), must[[8]string](t)(code.Shown(shown, frame)), api.OK)
		backwards := slices.Clone(l)
		slices.Reverse(backwards)
		want(t, results(l, frame), results(code.Shown(backwards, frame)), must[[8]string](t)(code.Shown(l, frame)), api.OK)
		want(t, l, results(code.Changes(backwards)), must[[]int](t)(code.Changes(l)), api.OK)
	}
}

// P7.6 and P7: a text is heard as it was sent, and each wrong bit at its place.
func TestHeardAsSent(t *testing.T) {
	d := dice(28)
	for range 1000 {
		text := string(d.bytes(d.below(40), 0, 127))
		sent := must[[]byte](t)(code.Sent(text))
		want(t, text, results(code.Heard(sent)), text, []int{}, api.OK)
		heard := []byte(text)
		var wrong []int
		for i := range sent {
			if count(sent[i])%2 == 0 || sent[i]%128 != text[i] {
				t.Errorf("%q is sent as %v", text, sent)
			}
			if d.below(4) == 0 {
				sent[i] ^= 1 << d.below(8)
				heard[i] = '?'
				wrong = append(wrong, i)
			}
		}
		want(t, sent, results(code.Heard(sent)), string(heard), wrong, api.OK)
	}
}

// P7.6 and P7: stamps are parsed as they were printed, and no two have one text.
func TestParsedAsPrinted(t *testing.T) {
	d := dice(29)
	texts := map[string]code.Stamp{}
	for range 20000 {
		s := d.stamp()
		text := must[string](t)(code.Print(s))
		want(t, text, results(code.Parse(text)), s, api.OK)
		if other, known := texts[text]; known && other != s {
			t.Errorf("%+v and %+v have the text %s", s, other, text)
		}
		texts[text] = s
	}
}
