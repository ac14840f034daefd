package mixer_test

import (
	"testing"

	"genlock/api"
	"genlock/mixer"
)

// P6.2
func TestWiped(t *testing.T) {
	for _, x := range []struct {
		w             mixer.Wipe
		width, height int
		key           []int
	}{
		{mixer.Wipe{Shape: "half", A: 1, B: 0, At: 1, Soft: 0}, 4, 1, []int{256, 256, 0, 0}},
		{mixer.Wipe{Shape: "half", A: 1, B: 0, At: 1, Soft: 1}, 4, 1, []int{256, 128, 0, 0}},
		{mixer.Wipe{Shape: "box", A: 2, B: 0, At: 1, Soft: 0}, 3, 1, []int{0, 256, 0}},
		{mixer.Wipe{Shape: "diamond", A: 1, B: 1, At: 1, Soft: 0}, 2, 2, []int{0, 0, 0, 0}},
		{mixer.Wipe{Shape: "diamond", A: 1, B: 1, At: 2, Soft: 0}, 2, 2, []int{256, 256, 256, 256}},
		{mixer.Wipe{Shape: "diamond", A: 1, B: 1, At: 2, Soft: 1}, 2, 2, []int{128, 128, 128, 128}},
		// the values 0, 2, 4 in the row 0, and 3, 5, 7 in the row 1
		{mixer.Wipe{Shape: "half", A: 2, B: 3, At: 4, Soft: 0}, 3, 2, []int{256, 256, 256, 256, 0, 0}},
		{mixer.Wipe{Shape: "half", A: 2, B: 3, At: 4, Soft: 3}, 3, 2, []int{256, 213, 128, 171, 85, 0}},
		{mixer.Wipe{Shape: "half", A: -2, B: 3, At: -1, Soft: 0}, 3, 2, []int{0, 256, 256, 0, 0, 256}},
		// |u| is 2, 0, 2, 4 and |v| is 1, 1, 3
		{mixer.Wipe{Shape: "box", A: 2, B: 1, At: 2, Soft: 1}, 4, 3, []int{128, 256, 128, 0, 128, 256, 128, 0, 0, 0, 0, 0}},
		{mixer.Wipe{Shape: "diamond", A: 2, B: 1, At: 3, Soft: 2}, 4, 3, []int{128, 256, 128, 0, 128, 256, 128, 0, 0, 128, 0, 0}},
		// 256 times 1 by 512 is a half
		{mixer.Wipe{Shape: "half", A: 1, B: 0, At: 255, Soft: 256}, 2, 1, []int{256, 255}},
		{mixer.Wipe{Shape: "half", A: 1, B: 0, At: -254, Soft: 256}, 4, 1, []int{1, 1, 0, 0}},
		{mixer.Wipe{Shape: "half", A: -1, B: 0, At: -257, Soft: 256}, 3, 1, []int{0, 0, 1}},
		{mixer.Wipe{Shape: "half", A: 0, B: 0, At: 0, Soft: 0}, 1, 1, []int{256}},
		{mixer.Wipe{Shape: "half", A: 0, B: 0, At: -1, Soft: 0}, 1, 1, []int{0}},
		{mixer.Wipe{Shape: "half", A: 100, B: 100, At: 100000, Soft: 100000}, 1, 1, []int{256}},
		{mixer.Wipe{Shape: "half", A: 100, B: 100, At: -100000, Soft: 100000}, 1, 1, []int{0}},
		{mixer.Wipe{Shape: "half", A: -100, B: -100, At: -100000, Soft: 100000}, 2, 2, []int{0, 0, 0, 0}},
	} {
		want(t, x, results(mixer.Wiped(x.w, x.width, x.height)), x.key, api.OK)
	}
}

// wiped returns the shares of a wipe on a picture of a width and a height.
func wiped(w mixer.Wipe, width, height int) []int {
	var key []int
	for y := range height {
		for x := range width {
			key = append(key, wipeShare(w, x, y))
		}
	}
	return key
}

// P6.2
func TestAnyWipes(t *testing.T) {
	d := dice(5)
	soft, edges := 0, 0
	for range 1000 {
		w := d.wipe()
		width, height := d.between(1, 64), 1+d.below(8)
		if d.below(2) == 0 {
			width, height = height, width
		}
		key := wiped(w, width, height)
		want(t, results(w, width, height), results(mixer.Wiped(w, width, height)), key, api.OK)
		soft += key[len(key)-1] % 256
		if key[0] != key[len(key)-1] {
			edges++
		}
		by := d.between(0, 30)
		if w.At+by > 100000 {
			continue
		}
		wider := w
		wider.At += by
		border := wiped(wider, width, height)
		for i := range border {
			border[i] -= key[i]
		}
		want(t, results(w, by, width, height), results(mixer.Border(w, by, width, height)), border, api.OK)
	}
	if soft < 1000 || edges < 200 {
		t.Errorf("only %d and %d", soft, edges)
	}
}

// P6.2
func TestBorder(t *testing.T) {
	for _, x := range []struct {
		w                 mixer.Wipe
		by, width, height int
		key               []int
	}{
		{mixer.Wipe{Shape: "half", A: 1, B: 0, At: 1, Soft: 0}, 1, 4, 1, []int{0, 0, 256, 0}},
		{mixer.Wipe{Shape: "half", A: 1, B: 0, At: 1, Soft: 1}, 1, 4, 1, []int{0, 128, 128, 0}},
		{mixer.Wipe{Shape: "half", A: 1, B: 0, At: 1, Soft: 1}, 0, 4, 1, []int{0, 0, 0, 0}},
		{mixer.Wipe{Shape: "half", A: 1, B: 0, At: -1, Soft: 0}, 100000, 2, 2, []int{256, 256, 256, 256}},
		{mixer.Wipe{Shape: "box", A: 2, B: 0, At: 1, Soft: 0}, 1, 3, 2, []int{256, 0, 256, 256, 256, 256}},
		{mixer.Wipe{Shape: "diamond", A: 2, B: 0, At: 1, Soft: 0}, 1, 3, 2, []int{256, 0, 256, 0, 256, 0}},
		{mixer.Wipe{Shape: "half", A: 1, B: 0, At: 100000, Soft: 0}, 0, 2, 1, []int{0, 0}},
		{mixer.Wipe{Shape: "half", A: 1, B: 0, At: 0, Soft: 0}, 100000, 2, 1, []int{0, 256}},
		{mixer.Wipe{Shape: "half", A: 1, B: 0, At: -100000, Soft: 100000}, 100000, 2, 1, []int{128, 128}},
	} {
		want(t, x, results(mixer.Border(x.w, x.by, x.width, x.height)), x.key, api.OK)
	}
}

// P6.2: the errors of wipes and borders.
func TestWipeErrors(t *testing.T) {
	sides := append(numbers(1, 64, api.ErrRange), given[int]{0, api.ErrRange})
	for _, w := range wipes() {
		for _, width := range sides {
			for _, height := range sides {
				wantError(t, results(w.v, width.v, height.v), results(mixer.Wiped(w.v, width.v, height.v)), firstError(w.e, width.e, height.e), []int(nil))
			}
		}
		for _, by := range numbers(0, 100000, api.ErrRange) {
			for _, side := range sides {
				e := firstError(w.e, by.e, side.e)
				if e == api.OK && w.v.At+by.v > 100000 {
					e = api.ErrLarge
				}
				wantError(t, results(w.v, by.v, side.v, 1), results(mixer.Border(w.v, by.v, side.v, 1)), e, []int(nil))
				wantError(t, results(w.v, by.v, 64, side.v), results(mixer.Border(w.v, by.v, 64, side.v)), e, []int(nil))
			}
		}
	}
	w := mixer.Wipe{Shape: "half", A: 1, B: 0, At: 99999, Soft: 0}
	want(t, "the greatest border", results(mixer.Border(w, 1, 1, 1)), []int{0}, api.OK)
	want(t, "a border that is too wide", results(mixer.Border(w, 2, 1, 1)), []int{}, api.ErrLarge)
	want(t, "a border that is too wide for no picture", results(mixer.Border(w, 2, 1, 0)), []int{}, api.ErrRange)
}
