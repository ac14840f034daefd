package code_test

import (
	"bytes"
	"slices"
	"testing"

	"genlock/api"
	"genlock/code"
)

// P7.2: example 4.
func TestReversed(t *testing.T) {
	for _, x := range []struct{ s, reversed []byte }{
		{nil, nil}, {[]byte{1, 2}, []byte{64, 128}}, {[]byte{0}, []byte{0}}, {[]byte{1}, []byte{128}}, {[]byte{255, 0, 15}, []byte{240, 0, 255}}, {[]byte{63, 253}, []byte{191, 252}}, {[]byte{2, 4, 8, 16, 32, 64, 128}, []byte{1, 2, 4, 8, 16, 32, 64}},
	} {
		want(t, x, results(code.Reversed(x.s)), x.reversed, api.OK)
		want(t, x, results(code.Reversed(x.reversed)), x.s, api.OK)
	}
	for _, x := range givenStreams() {
		wantError(t, len(x.v), results(code.Reversed(x.v)), x.e, []byte{})
	}
	for b := range 256 {
		reversed := 0
		for i := range 8 {
			reversed += b >> i % 2 << (7 - i)
		}
		want(t, b, results(code.Reversed([]byte{byte(b), 1})), []byte{128, byte(reversed)}, api.OK)
	}
}

// P7.2: example 4, and words that are cut off, damaged, or within one another.
func TestFound(t *testing.T) {
	a, b := example, code.Stamp{Rate: at25, Label: label(10, 11, 12, 13), User: 63<<8 + 253}
	f, g := joined(a), joined(b)
	bad := slices.Clone(f)
	bad[6] ^= 4
	for i, x := range []struct {
		parts  [][]byte
		stamps []code.Stamp
		at     []int
	}{
		{nil, nil, nil},
		{[][]byte{f}, []code.Stamp{a}, []int{0}},
		{[][]byte{{7}, f[1:], f}, []code.Stamp{a}, []int{10}},
		{[][]byte{f, g, f}, []code.Stamp{a, b, a}, []int{0, 10, 20}},
		{[][]byte{f, f, f}, []code.Stamp{a, a, a}, []int{0, 10, 20}},
		{[][]byte{f[:9]}, nil, nil},
		{[][]byte{f[1:]}, nil, nil},
		{[][]byte{f[:9], g}, []code.Stamp{b}, []int{9}},
		{[][]byte{f, g[:9]}, []code.Stamp{a}, []int{0}},
		{[][]byte{f, {63}, g, {253}}, []code.Stamp{a, b}, []int{0, 11}},
		{[][]byte{{63, 253}, g, {63, 253}, f}, []code.Stamp{b, a}, []int{2, 14}},
		{[][]byte{bad, f, bad, g, bad}, []code.Stamp{a, b}, []int{10, 30}},
		{[][]byte{f[:5], f, f[5:], g}, []code.Stamp{a, b}, []int{5, 20}},
		{[][]byte{bad}, nil, nil},
	} {
		s := slices.Concat(x.parts...)
		want(t, i, results(code.Found(s)), x.stamps, x.at, api.OK)
	}
	for _, x := range givenStreams() {
		want(t, len(x.v), results(code.Found(x.v)), []code.Stamp{}, []int{}, x.e)
	}
	full := bytes.Repeat(f, 400)
	stamps, at, e := code.Found(full)
	want(t, "4000 bytes", results(len(stamps), len(at), stamps[399], at[399], e), 400, 400, a, 3990, api.OK)
	want(t, "4001 bytes", results(code.Found(append(full, 0))), []code.Stamp{}, []int{}, api.ErrMany)
}

// P7.2: a word that begins within another one is found only where that one is not.
func TestFoundBehindAWord(t *testing.T) {
	inner := joined(code.Stamp{Rate: at25}) // 0 0 0 0 25 0 0 25 63 253
	for at := 1; at < 10; at++ {
		s := append(bytes.Repeat([]byte{99}, at), inner...)
		want(t, s, results(code.Found(s)), []code.Stamp{{Rate: at25}}, []int{at}, api.OK)
	}
	s := append(bytes.Clone(inner), inner[5:]...)
	want(t, s, results(code.Found(s)), []code.Stamp{{Rate: at25}}, []int{0}, api.OK)
}

// foundIn returns the stamps of a stream, and their places, as the chapter defines them.
func foundIn(s []byte) ([]code.Stamp, []int) {
	var stamps []code.Stamp
	var places []int
	for at := 0; at+10 <= len(s); at++ {
		if stamp, e := readAs([10]byte(s[at:])); e == api.OK {
			stamps, places = append(stamps, stamp), append(places, at)
			at += 9
		}
	}
	return stamps, places
}

// P7.2: any stream of words, parts of words and other bytes.
func TestFoundInAnyStream(t *testing.T) {
	d := dice(5)
	all := 0
	for range 5000 {
		var s []byte
		for range d.below(12) {
			w := joined(d.stamp())
			switch d.below(4) {
			case 0:
				w = w[d.below(10):]
			case 1:
				w[d.below(10)] ^= 1 << d.below(8)
			}
			s = append(append(s, w...), d.bytes(d.below(3), 0, 255)...)
		}
		stamps, places := foundIn(s)
		all += len(stamps)
		want(t, s, results(code.Found(s)), stamps, places, api.OK)
	}
	if all < 5000 {
		t.Errorf("only %d words", all)
	}
}

// P7.2
func TestJumps(t *testing.T) {
	at := func(r code.Rate, l code.Label, user int) code.Stamp { return code.Stamp{Rate: r, Label: l, User: user} }
	for _, x := range []struct {
		l     []code.Stamp
		jumps []int
	}{
		{nil, nil},
		{[]code.Stamp{example}, nil},
		{[]code.Stamp{example, example}, []int{1}},
		{[]code.Stamp{at(at25, label(0, 0, 0, 23), 1), at(at25, label(0, 0, 0, 24), 9), at(at25, label(0, 0, 1, 0), 0), at(at25, label(0, 0, 1, 2), 0), at(at25, label(0, 0, 1, 3), 0)}, []int{3}},
		{[]code.Stamp{at(at24, label(0, 0, 0, 23), 1), at(at25, label(0, 0, 0, 24), 1), at(at25, label(0, 0, 1, 0), 1)}, []int{1}},
		{[]code.Stamp{at(at25, label(0, 0, 0, 4), 1), at(at30, label(0, 0, 0, 5), 1), at(drop30, label(0, 0, 0, 6), 1), at(drop30, label(0, 0, 0, 7), 1)}, []int{1, 2}},
		{[]code.Stamp{at(drop30, label(0, 0, 59, 29), 1), at(drop30, label(0, 1, 0, 2), 1), at(at30, label(0, 1, 0, 3), 1)}, []int{2}},
		{[]code.Stamp{at(drop30, label(23, 59, 59, 29), 1), at(drop30, label(0, 0, 0, 0), 1), at(drop30, label(23, 59, 59, 29), 1)}, []int{2}},
		{[]code.Stamp{at(at30, label(0, 0, 59, 29), 1), at(at30, label(0, 1, 0, 2), 1), at(at30, label(0, 1, 0, 1), 1), at(at30, label(0, 1, 0, 2), 1)}, []int{1, 2}},
	} {
		want(t, x.l, results(code.Jumps(x.l)), x.jumps, api.OK)
	}
}

// P7.2
func TestJumpsErrors(t *testing.T) {
	most := slices.Repeat([]code.Stamp{example}, 256)
	jumps, e := code.Jumps(most)
	want(t, "256 stamps", results(len(jumps), jumps[0], jumps[254], e), 255, 1, 255, api.OK)
	want(t, "257 stamps", results(code.Jumps(append(most, example))), []int{}, api.ErrMany)
	want(t, "257 stamps", results(code.Jumps(make([]code.Stamp, 257))), []int{}, api.ErrMany)
	for _, x := range givenStamps() {
		wantError(t, x.v, results(code.Jumps([]code.Stamp{x.v})), x.e, []int{})
		wantError(t, x.v, results(code.Jumps([]code.Stamp{example, x.v, {}})), firstError(x.e, api.ErrKind), []int{})
	}
	most[255].User = -1
	want(t, "the last stamp", results(code.Jumps(most)), []int{}, api.ErrRange)
}

// P7.2: any list, in which many stamps follow.
func TestJumpsOfAnyList(t *testing.T) {
	d := dice(6)
	for range 2000 {
		s := d.stamp()
		s.Label.Seconds = 59
		l := []code.Stamp{s}
		var jumps []int
		for at := 1; at < 8; at++ {
			switch d.below(6) {
			case 0:
				jumps = append(jumps, at)
				s.Rate = rates()[(slices.Index(rates(), s.Rate)+1)%4]
				s.Label = label(1, 10, 59, 22)
			case 1: // the same label once more
				jumps = append(jumps, at)
			default:
				s.Label = next(s.Rate, s.Label)
			}
			s.User = d.between(0, 65535)
			l = append(l, s)
		}
		want(t, l, results(code.Jumps(l)), jumps, api.OK)
	}
}
