package picture_test

import (
	"math"
	"slices"
	"strings"
	"testing"

	"genlock/api"
	"genlock/picture"
)

const (
	letters = "ABCDEFGHIJKLMNOPQRSTUVWXYZabcdefghijklmnopqrstuvwxyz"
	others  = "0123456789_"
)

// P1.1
func TestIsName(t *testing.T) {
	for s, is := range map[string]bool{
		"": false, "a": true, "Z": true, "_": false, "7": false, "a_9": true, "_a": false, "9a": false,
		"a b": false, " a": false, "a ": false, "a\n": false, "a-b": false, "é": false, "aé": false, "a\xff": false, "\xff": false, "a\x00": false,
		strings.Repeat("a", 24): true, strings.Repeat("a", 25): false, "a" + strings.Repeat("_", 23): true, "a" + strings.Repeat("0", 24): false,
		strings.Repeat("a", 23) + "-": false, strings.Repeat("a", 23) + "é": false, strings.Repeat("a", 100000): false,
	} {
		want(t, "IsName "+s, []any{picture.IsName(s)}, []any{is})
	}
	for b := range 256 {
		s := string([]byte{byte(b)})
		want(t, []any{"IsName of the byte", b}, []any{picture.IsName(s), picture.IsName("a" + s)}, []any{strings.Contains(letters, s), strings.Contains(letters+others, s)})
	}
	for _, r := range []rune{'\u212a', '\u017f', '\u00e4', '\uff21', '\u0663'} { // letters and digits, but no bytes of names
		want(t, string(r), []any{picture.IsName("a" + string(r))}, []any{false})
	}
}

// P1.1
func TestDraw(t *testing.T) {
	for _, x := range []struct {
		key, n int
		l      []int
	}{
		{1, 0, nil}, {2147483646, 0, nil}, {5, 1, []int{0}}, {1, 2, []int{0, 1}},
		{1, 10, []int{5, 8, 1, 2, 6, 3, 0, 7, 4, 9}},
		{2147483646, 10, []int{5, 3, 7, 9, 2, 4, 1, 0, 6, 8}},
		{12345, 16, []int{7, 10, 12, 0, 8, 4, 6, 1, 14, 15, 11, 2, 9, 13, 5, 3}},
	} {
		l, e := picture.Draw(x.key, x.n)
		want(t, []any{"Draw", x.key, x.n}, []any{l, e}, []any{x.l, api.OK})
	}
	l, e := picture.Draw(777, 256)
	if e != api.OK || len(l) != 256 {
		t.Fatalf("Draw of 256: %d elements and %d", len(l), e)
	}
	want(t, "Draw of 256", []any{l[:8], l[248:]}, []any{[]int{53, 47, 44, 182, 18, 128, 151, 179}, []int{248, 117, 118, 114, 245, 148, 73, 98}})
	slices.Sort(l)
	for i, x := range l {
		want(t, "the elements of Draw", []any{x}, []any{i})
	}
	for _, x := range [][2]int{{0, 2}, {-1, 2}, {2147483647, 2}, {math.MinInt, 2}, {math.MaxInt, 2}, {1, -1}, {1, 257}, {1, math.MaxInt}, {1, math.MinInt}, {0, -1}} {
		l, e := picture.Draw(x[0], x[1])
		want(t, []any{"Draw", x}, []any{l, e}, []any{[]int(nil), api.ErrRange})
	}
}

// P1.1
func TestCheckRatio(t *testing.T) {
	for _, x := range []struct {
		x api.Ratio
		e api.Errno
	}{
		{api.Ratio{Num: 0, Den: 1}, api.OK}, {api.Ratio{Num: 7, Den: 2}, api.OK}, {api.Ratio{Num: -7, Den: 2}, api.OK}, {api.Ratio{Num: 5, Den: 1}, api.OK},
		{api.Ratio{Num: 999999999, Den: 1}, api.OK}, {api.Ratio{Num: -999999999, Den: 1}, api.OK}, {api.Ratio{Num: 1, Den: 999999999}, api.OK}, {api.Ratio{Num: 999999998, Den: 999999999}, api.OK},
		{api.Ratio{}, api.ErrRange}, {api.Ratio{Num: 1, Den: -1}, api.ErrRange}, {api.Ratio{Num: 2, Den: -4}, api.ErrRange}, {api.Ratio{Num: 1, Den: 1000000000}, api.ErrRange}, {api.Ratio{Num: 2, Den: 1000000000}, api.ErrRange},
		{api.Ratio{Num: 1000000000, Den: 1}, api.ErrRange}, {api.Ratio{Num: -1000000000, Den: 3}, api.ErrRange}, {api.Ratio{Num: 1000000000, Den: 2}, api.ErrRange},
		{api.Ratio{Num: math.MinInt, Den: -1}, api.ErrRange}, {api.Ratio{Num: math.MinInt, Den: math.MinInt}, api.ErrRange}, {api.Ratio{Num: math.MaxInt, Den: 0}, api.ErrRange},
		{api.Ratio{Num: 2, Den: 4}, api.ErrForm}, {api.Ratio{Num: -2, Den: 4}, api.ErrForm}, {api.Ratio{Num: 4, Den: 2}, api.ErrForm}, {api.Ratio{Num: 35, Den: 21}, api.ErrForm},
		{api.Ratio{Num: 0, Den: 2}, api.ErrForm}, {api.Ratio{Num: 0, Den: 999999999}, api.ErrForm}, {api.Ratio{Num: -999999999, Den: 999999999}, api.ErrForm},
	} {
		want(t, x.x, []any{picture.CheckRatio(x.x)}, []any{x.e})
	}
}

// P1.1
func TestCheckSample(t *testing.T) {
	for n := -16384; n <= 16384; n++ {
		x := float32(n) / 16
		middle := x + 1.0/32
		want(t, x, []any{picture.CheckSample(x), picture.CheckSample(middle)}, []any{api.OK, api.ErrRange})
	}
	for _, x := range []struct {
		x float32
		e api.Errno
	}{
		{minus0, api.OK}, {1024, api.OK}, {-1024, api.OK},
		{1024.0625, api.ErrRange}, {-1024.0625, api.ErrRange}, {1025, api.ErrRange}, {-2048, api.ErrRange}, {math.MaxFloat32, api.ErrRange}, {-math.MaxFloat32, api.ErrRange},
		{0.01, api.ErrRange}, {0.03125, api.ErrRange}, {-0.03125, api.ErrRange}, {math.SmallestNonzeroFloat32, api.ErrRange}, {-math.SmallestNonzeroFloat32, api.ErrRange},
		{math.Nextafter32(1, 2), api.ErrRange}, {math.Nextafter32(1024, 0), api.ErrRange}, {math.Nextafter32(1024, 2000), api.ErrRange},
		{nan, api.ErrForm}, {-nan, api.ErrForm}, {infinite, api.ErrForm}, {-infinite, api.ErrForm},
	} {
		want(t, x.x, []any{picture.CheckSample(x.x)}, []any{x.e})
	}
}

// The constants of the chapter.
func TestConstants(t *testing.T) {
	want(t, "constants", []any{picture.MaxScale, picture.MaxPackets, picture.Size, picture.Sync}, []any{1000, 1024, 16, 171})
}
