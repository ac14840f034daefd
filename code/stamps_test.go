package code_test

import (
	"testing"

	"genlock/api"
	"genlock/code"
)

// P7.2
func TestCheckStamp(t *testing.T) {
	for _, x := range givenStamps() {
		want(t, x.v, results(code.CheckStamp(x.v)), x.e)
	}
}

// P7.2: example 3.
func TestWritten(t *testing.T) {
	for _, x := range []struct {
		s code.Stamp
		w [10]byte
	}{
		{example, exampleWord},
		{code.Stamp{Rate: at24}, [10]byte{0, 0, 0, 0, 24, 0, 0, 24, 63, 253}},
		{code.Stamp{Rate: at25, Label: label(23, 59, 58, 19), User: 65535}, [10]byte{25, 88, 89, 35, 25, 255, 255, 34, 63, 253}},
		{code.Stamp{Rate: at30, Label: label(10, 20, 30, 29), User: 255}, [10]byte{41, 48, 32, 16, 30, 0, 255, 200, 63, 253}},
		{code.Stamp{Rate: drop30, Label: label(0, 1, 0, 2), User: 256}, [10]byte{2, 0, 1, 0, 158, 1, 0, 156, 63, 253}},
	} {
		want(t, x, results(code.Written(x.s)), x.w, api.OK)
		want(t, x, results(wordOf(x.s)), x.w)
		want(t, x, results(code.Read(x.w)), x.s, api.OK)
	}
	for _, x := range givenStamps() {
		wantError(t, x.v, results(code.Written(x.v)), x.e, [10]byte{})
	}
}

// P7.2: any word.
func TestWrittenWords(t *testing.T) {
	d := dice(3)
	for range 20000 {
		s := d.stamp()
		want(t, s, results(code.Written(s)), wordOf(s), api.OK)
		want(t, s, results(code.Read(wordOf(s))), s, api.OK)
	}
}

// P7.2: the end is asked before the parity, the parity before the digits and the rate, and these before the stamp.
func TestReadErrors(t *testing.T) {
	head := [7]byte{4, 3, 2, 1, 158, 1, 2}
	set := func(at int, b byte) [7]byte {
		changed := head
		changed[at] = b
		return changed
	}
	for _, x := range []struct {
		head [7]byte
		e    api.Errno
	}{
		{head, api.OK},
		{set(0, 0x29), api.OK}, {set(0, 0x30), api.ErrRange}, {set(0, 0x99), api.ErrRange}, {set(0, 0x0a), api.ErrForm}, {set(0, 0xa0), api.ErrForm}, {set(0, 0x2f), api.ErrForm},
		{set(1, 0x59), api.OK}, {set(1, 0x60), api.ErrRange}, {set(1, 0x99), api.ErrRange}, {set(1, 0x5a), api.ErrForm}, {set(1, 0xa0), api.ErrForm}, {set(1, 0xff), api.ErrForm},
		{set(2, 0x59), api.OK}, {set(2, 0x60), api.ErrRange}, {set(2, 0x99), api.ErrRange}, {set(2, 0x0b), api.ErrForm}, {set(2, 0xb1), api.ErrForm}, {set(2, 0xf0), api.ErrForm},
		{set(3, 0x23), api.OK}, {set(3, 0x24), api.ErrRange}, {set(3, 0x99), api.ErrRange}, {set(3, 0x1a), api.ErrForm}, {set(3, 0xa1), api.ErrForm}, {set(3, 0xc0), api.ErrForm},
		{set(4, 24), api.OK}, {set(4, 25), api.OK}, {set(4, 30), api.OK}, {set(4, 152), api.ErrForm}, {set(4, 153), api.ErrForm}, {set(4, 0), api.ErrForm}, {set(4, 29), api.ErrForm}, {set(4, 31), api.ErrForm}, {set(4, 157), api.ErrForm}, {set(4, 159), api.ErrForm}, {set(4, 128), api.ErrForm}, {set(4, 255), api.ErrForm}, {set(4, 0x30), api.ErrForm},
		{[7]byte{0, 0, 1, 0, 158}, api.ErrNone}, {[7]byte{1, 0, 0x59, 0x23, 158, 255, 255}, api.ErrNone}, {[7]byte{2, 0, 1, 0, 158}, api.OK}, {[7]byte{1, 0, 0x50, 0, 158}, api.OK}, {[7]byte{0, 0, 1, 0, 30}, api.OK}, {[7]byte{0, 1, 1, 0, 158}, api.OK},
		{[7]byte{0x24, 0, 0, 0, 24}, api.ErrRange}, {[7]byte{0x24, 0, 0, 0, 25}, api.OK}, {[7]byte{0x25, 0, 0, 0, 25}, api.ErrRange}, {[7]byte{0x23, 0, 0, 0, 24}, api.OK},
		{[7]byte{0x30, 0, 0, 0x1a, 30}, api.ErrForm}, {[7]byte{0x30, 0, 0, 0, 29}, api.ErrForm}, {[7]byte{0, 0x60, 1, 0, 158}, api.ErrRange},
	} {
		w := packed(x.head, 0)
		wantError(t, w, results(code.Read(w)), x.e, code.Stamp{})
		for _, change := range []byte{1, 128, 255} {
			wantError(t, x, results(code.Read(packed(x.head, change))), api.ErrCheck, code.Stamp{})
		}
		for _, end := range [][2]byte{{}, {63, 252}, {62, 253}, {253, 63}, {191, 253}, {63, 125}, {63, 63}} {
			for _, change := range []byte{0, 9} {
				w := packed(x.head, change)
				w[8], w[9] = end[0], end[1]
				wantError(t, w, results(code.Read(w)), api.ErrForm, code.Stamp{})
			}
		}
	}
}

// readAs returns the stamp of a word, and its error, as the chapter defines them.
func readAs(w [10]byte) (code.Stamp, api.Errno) {
	rest := packed([7]byte(w[:7]), 0)
	rate := code.Rate{Frames: int(w[4] % 128), Drop: w[4] > 127}
	switch {
	case w[8] != 63 || w[9] != 253:
		return code.Stamp{}, api.ErrForm
	case w[7] != rest[7]:
		return code.Stamp{}, api.ErrCheck
	case rate != at24 && rate != at25 && rate != at30 && rate != drop30:
		return code.Stamp{}, api.ErrForm
	}
	var parts [4]int
	for i, b := range w[:4] {
		if b/16 > 9 || b%16 > 9 {
			return code.Stamp{}, api.ErrForm
		}
		parts[i] = int(b/16*10 + b%16)
	}
	l := label(parts[3], parts[2], parts[1], parts[0])
	switch {
	case l.Hours > 23 || l.Minutes > 59 || l.Seconds > 59 || l.Frames >= rate.Frames:
		return code.Stamp{}, api.ErrRange
	case rate.Drop && l.Minutes%10 > 0 && l.Seconds == 0 && l.Frames < 2:
		return code.Stamp{}, api.ErrNone
	}
	return code.Stamp{Rate: rate, Label: l, User: int(w[5])*256 + int(w[6])}, api.OK
}

// P7.2: any ten bytes, most of them near to a word.
func TestReadOfAnyBytes(t *testing.T) {
	d := dice(4)
	seen := map[api.Errno]int{}
	for range 50000 {
		w := [10]byte(d.bytes(10, 0, 255))
		if d.below(8) > 0 {
			head := [7]byte(d.bytes(7, 0, 255))
			for i := range 4 {
				head[i] = byte(d.below(7)*16 + d.between(0, 10))
			}
			head[4] = []byte{24, 25, 30, 158, 152, 26}[d.below(6)]
			if d.below(4) == 0 {
				head[0], head[1] = byte(d.below(3)), 0
			}
			w = packed(head, byte(max(0, d.below(20)-18)))
		}
		s, e := readAs(w)
		seen[e]++
		want(t, w, results(code.Read(w)), s, e)
	}
	for _, e := range []api.Errno{api.OK, api.ErrForm, api.ErrCheck, api.ErrRange, api.ErrNone} {
		if seen[e] < 100 {
			t.Errorf("only %d with the error %d", seen[e], e)
		}
	}
}
