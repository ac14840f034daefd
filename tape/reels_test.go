package tape_test

import (
	"slices"
	"strings"
	"testing"

	"genlock/api"
	"genlock/tape"
)

// pair returns the two bytes of a number.
func pair(n int) []byte { return []byte{byte(n / 256), byte(n % 256)} }

// frameRecord returns the record of a frame, as the chapter defines it.
func frameRecord(n, check int) []byte {
	return slices.Concat([]byte{70}, pair(check), pair((263*(263*n+check)+97)%65521))
}

// head returns what stands before the records.
func head(name string, first int) []byte {
	return slices.Concat([]byte("REEL"), []byte{byte(len(name))}, []byte(name), pair(first/65536), pair(first%65536))
}

// end returns the end of frames with these checks.
func end(checks []int) []byte {
	sum := 0
	for _, check := range checks {
		sum += check
	}
	return slices.Concat([]byte{69}, pair(len(checks)), pair(sum%65521))
}

// streamOf returns the stream of a reel, also of one that has an error.
func streamOf(r tape.Reel) []byte {
	s := head(r.Name, r.First)
	for n, check := range r.Checks {
		s = append(s, frameRecord(n, check)...)
	}
	return append(s, end(r.Checks)...)
}

// with returns streams, one behind the other.
func with(l ...[]byte) []byte { return slices.Concat(l...) }

// changed returns a stream with another byte at an index; below 0 it is counted from the end.
func changed(s []byte, at int, b byte) []byte {
	s = slices.Clone(s)
	if at < 0 {
		at += len(s)
	}
	s[at] = b
	return s
}

// anyReel returns a reel.
func (d *dice) anyReel(most int) tape.Reel {
	r := tape.Reel{Name: "r" + strings.Repeat("x_9"[d.below(3):][:1], d.between(0, 23))}
	for range d.between(1, most) {
		r.Checks = append(r.Checks, d.between(0, 65535))
	}
	r.First = d.between(0, 10000000-len(r.Checks))
	return r
}

// P8.1: the errors of reels.
func TestCheckReel(t *testing.T) {
	for _, r := range givenReels() {
		want(t, r.v, results(tape.CheckReel(r.v)), r.e)
	}
}

// P8.1: the errors of lists of reels.
func TestCheckReels(t *testing.T) {
	for _, l := range givenLists() {
		want(t, l.v, results(tape.CheckReels(l.v)), l.e)
	}
}

// P8.1: the document's examples 1 and 2.
func TestExampleStreams(t *testing.T) {
	c := reel("c", 1, 258)
	s := []byte{'R', 'E', 'E', 'L', 1, 'c', 0, 0, 0, 1, 70, 1, 2, 9, 126, 69, 0, 1, 1, 2}
	want(t, c, results(tape.Taped(c)), s, api.OK)
	want(t, s, results(tape.Read(s)), c, api.OK)
	want(t, s, results(tape.Rebuilt(s)), c, true, api.OK)
	short := s[:len(s)-1]
	want(t, short, results(tape.Read(short)), tape.Reel{}, api.ErrTorn)
	want(t, short, results(tape.Rebuilt(short)), c, false, api.OK)
	wrong := changed(s, 14, 127)
	want(t, wrong, results(tape.Read(wrong)), tape.Reel{}, api.ErrCheck)
	want(t, wrong, results(tape.Rebuilt(wrong)), tape.Reel{}, false, api.ErrEmpty)
}

// P8.1: the streams of reels.
func TestTaped(t *testing.T) {
	for _, r := range givenReels() {
		wantError(t, r.v, results(tape.Taped(r.v)), r.e, []byte{})
		if r.e == api.OK {
			want(t, r.v, results(tape.Taped(r.v)), streamOf(r.v), api.OK)
		}
	}
	d := dice(1)
	for range 300 {
		r := d.anyReel(256)
		want(t, r, results(tape.Taped(r)), streamOf(r), api.OK)
	}
}

// givenStreams are streams, and the errors of Read.
func givenStreams() []given[[]byte] {
	c := reel("c", 1, 258)
	s := streamOf(c)
	var l []given[[]byte]
	add := func(e api.Errno, parts ...[]byte) { l = append(l, given[[]byte]{with(parts...), e}) }
	add(api.OK, s)
	for size := range len(s) {
		add(api.ErrTorn, s[:size])
	}
	for i := range 4 {
		for size := range len(s) { // three wrong bytes are missing ones; four are wrong ones
			e := api.ErrTorn
			if size >= 4 && i < size {
				e = api.ErrForm
			}
			if i < size {
				add(e, changed(s[:size], i, 'r'))
			}
		}
	}
	add(api.ErrForm, []byte("LEER"))
	add(api.ErrForm, make([]byte, 100))
	add(api.ErrTorn, []byte("REEL"), []byte{200}, make([]byte, 199))
	add(api.ErrForm, []byte("REEL"), []byte{200}, make([]byte, 200))
	add(api.ErrTorn, []byte("REEL"), []byte{255}, []byte("c"))
	for _, n := range givenNames() {
		if len(n.v) > 255 {
			continue
		}
		e := firstError(map[api.Errno]api.Errno{api.OK: api.OK, api.ErrName: api.ErrForm}[n.e], api.ErrTorn)
		add(e, head(n.v, 0))
		add(e, head(n.v, 0)[:5+len(n.v)])
	}
	for _, first := range []int{0, 9999999, 10000000} {
		add(api.ErrEmpty, head("c", first), end(nil))
		add(api.ErrTorn, head("c", first))
		add(api.ErrForm, head("c", first), []byte{0})
	}
	for _, bytes := range [][]byte{{0, 152, 150, 129}, {1, 0, 0, 0}, {255, 255, 255, 255}, {128, 0, 0, 0}} {
		add(api.ErrForm, []byte("REEL\x01c"), bytes)
		add(api.ErrForm, []byte("REEL\x01c"), bytes, frameRecord(0, 1), end([]int{1}))
	}
	add(api.OK, streamOf(reel("c", 9999999, 5)))
	add(api.ErrLarge, streamOf(reel("c", 10000000, 5)))
	add(api.ErrLarge, streamOf(reel("c", 9999999, 5, 6)))
	add(api.ErrOver, streamOf(reel("c", 9999999, 5, 6)), []byte{0})
	add(api.ErrOver, s, []byte{0})
	add(api.ErrOver, s, end([]int{258}))
	add(api.ErrOver, s, s)
	add(api.ErrOver, head("c", 1), end(nil), []byte{70})
	for kind := range 256 {
		if kind != 69 && kind != 70 {
			add(api.ErrForm, changed(s, 10, byte(kind)))
			add(api.ErrForm, s[:10], []byte{byte(kind)})
			add(api.ErrForm, changed(s, 15, byte(kind)))
			add(api.ErrForm, s[:15], []byte{byte(kind)})
		}
	}
	add(api.ErrCheck, changed(s, 10, 69))
	add(api.ErrTorn, changed(s, 15, 70)[:19])
	add(api.ErrCheck, changed(s, 15, 70))
	for at := 11; at < 20; at++ {
		if at != 15 {
			add(api.ErrCheck, changed(s, at, s[at]+1))
			add(api.ErrCheck, changed(s, at, s[at]-1), []byte{1, 2, 3})
		}
	}
	add(api.ErrCheck, head("c", 1), frameRecord(1, 258), end([]int{258}))
	add(api.ErrCheck, head("c", 1), frameRecord(0, 258), frameRecord(0, 258), end([]int{258, 258}))
	add(api.ErrCheck, head("c", 1), frameRecord(0, 258), end([]int{258, 0}))
	add(api.ErrCheck, head("c", 1), frameRecord(0, 258), end([]int{257}))
	// 65521 is as much as 0 for the sum of the end, but it is not written.
	add(api.OK, head("c", 1), frameRecord(0, 65521), []byte{69, 0, 1, 0, 0})
	add(api.ErrCheck, head("c", 1), frameRecord(0, 65521), []byte{69, 0, 1, 255, 241})
	add(api.OK, head("c", 1), frameRecord(0, 65535), []byte{69, 0, 1, 0, 14})
	full := reel("c", 1, slices.Repeat([]int{1, 65535}, 128)...)
	whole := streamOf(full)
	body := whole[:len(whole)-5]
	add(api.OK, whole)
	add(api.ErrTorn, body)
	add(api.ErrMany, body, frameRecord(256, 7))
	add(api.ErrMany, body, []byte{70})
	add(api.ErrMany, body, []byte{70, 0, 0, 0, 0})
	add(api.ErrForm, body, []byte{71})
	add(api.ErrCheck, body, []byte{69, 0, 0, 0, 0})
	add(api.ErrCheck, changed(body, 13, 77), frameRecord(256, 7))
	add(api.ErrMany, body, frameRecord(256, 7), end(append(slices.Clone(full.Checks), 7)))
	return l
}

// P8.1: the errors of streams, in their order.
func TestRead(t *testing.T) {
	for _, s := range givenStreams() {
		wantError(t, s.v, results(tape.Read(s.v)), s.e, tape.Reel{})
	}
	d := dice(2)
	for range 300 {
		r := d.anyReel(256)
		want(t, r, results(tape.Read(streamOf(r))), r, api.OK)
	}
}

// P8.1: a stream is rebuilt up to its first frame that is not right, or is none, and the errors before the first record are those of Read.
func TestRebuilt(t *testing.T) {
	for _, s := range givenStreams() {
		_, e := tape.Read(s.v)
		r, whole, wrong := tape.Rebuilt(s.v)
		switch {
		case wrong == api.OK:
			want(t, s.v, results(whole, tape.CheckReel(r)), e == api.OK, api.OK)
		default:
			want(t, s.v, results(r, whole), tape.Reel{}, false)
		}
	}
	c := head("c", 1)
	one, two := frameRecord(0, 258), frameRecord(1, 7)
	for _, x := range []struct {
		s []byte
		r tape.Reel
		e api.Errno
	}{
		{nil, tape.Reel{}, api.ErrTorn}, {c[:3], tape.Reel{}, api.ErrTorn}, {c[:9], tape.Reel{}, api.ErrTorn}, {c, tape.Reel{}, api.ErrEmpty}, {changed(c, 0, 'r'), tape.Reel{}, api.ErrForm}, {changed(c, 5, '1'), tape.Reel{}, api.ErrForm}, {changed(c, 6, 1), tape.Reel{}, api.ErrForm}, {[]byte("REEL\x00\x00\x00\x00\x00"), tape.Reel{}, api.ErrForm},
		{with(c, one[:4]), tape.Reel{}, api.ErrEmpty}, {with(c, end(nil)), tape.Reel{}, api.ErrEmpty}, {with(c, two), tape.Reel{}, api.ErrEmpty}, {with(c, []byte{0}), tape.Reel{}, api.ErrEmpty}, {with(c, end(nil), one), tape.Reel{}, api.ErrEmpty},
		{with(c, one), reel("c", 1, 258), api.OK}, {with(c, one, two[:4]), reel("c", 1, 258), api.OK}, {with(c, one, two), reel("c", 1, 258, 7), api.OK}, {with(c, one, one, two), reel("c", 1, 258), api.OK}, {with(c, one, end([]int{258}), two), reel("c", 1, 258), api.OK}, {with(c, one, end(nil)), reel("c", 1, 258), api.OK}, {with(c, one, []byte{0}, two), reel("c", 1, 258), api.OK}, {with(c, one, two, make([]byte, 50)), reel("c", 1, 258, 7), api.OK}, {with(c, one, two, end([]int{7})), reel("c", 1, 258, 7), api.OK},
		{with(head("c", 10000000), one, end([]int{258})), tape.Reel{}, api.ErrEmpty}, {with(head("c", 9999999), one, end([]int{258}), []byte{1}), reel("c", 9999999, 258), api.OK}, {with(head("c", 9999999), one, two), reel("c", 9999999, 258), api.OK}, {with(head("c", 9999999), one, two, end([]int{258, 7})), reel("c", 9999999, 258), api.OK}, {with(head("c", 9999998), one, two), reel("c", 9999998, 258, 7), api.OK},
	} {
		want(t, x.s, results(tape.Rebuilt(x.s)), x.r, false, x.e)
	}
	want(t, "up to the last time", results(tape.Rebuilt(with(head("c", 9999999), one, end([]int{258})))), reel("c", 9999999, 258), true, api.OK)
	full := reel("c", 1, slices.Repeat([]int{1, 65535}, 128)...)
	whole := streamOf(full)
	body := whole[:len(whole)-5]
	want(t, "256 frames", results(tape.Rebuilt(whole)), full, true, api.OK)
	want(t, "257 frames", results(tape.Rebuilt(with(body, frameRecord(256, 7), end(append(slices.Clone(full.Checks), 7))))), full, false, api.OK)
	want(t, "no end", results(tape.Rebuilt(body)), full, false, api.OK)
}
