package picture_test

import (
	"math"
	"testing"

	"genlock/api"
	"genlock/picture"
)

// P1.2
func TestCheckPicture(t *testing.T) {
	for _, p := range []picture.Picture{chapter(), filled(1, 1, -1024), filled(64, 64, 1024), filled(64, 1, 0), filled(1, 64, minus0), named("A_0", filled(2, 1, 0.0625)), named("abcdefghijklmnopqrstuvwx", filled(1, 1, 0))} {
		want(t, p.Name, []any{picture.CheckPicture(p)}, []any{api.OK})
	}
	for i, x := range wrongPictures {
		want(t, i, []any{picture.CheckPicture(x.p)}, []any{x.e})
	}
}

// P1.2, P1.3 and P1.6: the error of a picture comes before all others, from left to right, and no result stands beside it.
func TestWrongPictures(t *testing.T) {
	for i, x := range wrongPictures {
		for _, all := range []map[string][]any{oneArgument(x.p), furtherArguments(x.p, 0, 1), furtherArguments(x.p, -1, -1), furtherArguments(x.p, 5000, -5000), twoArguments(x.p, chapter()), twoArguments(chapter(), x.p)} {
			for name, r := range all {
				want(t, []any{name, i}, []any{r[0], r[2]}, []any{r[1], x.e})
			}
		}
		for _, y := range wrongPictures {
			for name, r := range twoArguments(x.p, y.p) {
				want(t, []any{name, "of two", i}, []any{r[0], r[2]}, []any{r[1], x.e})
			}
		}
	}
}

// P1.2
func TestAt(t *testing.T) {
	for y := range 2 {
		for x := range 3 {
			v, e := picture.At(chapter(), x, y)
			want(t, []any{"At", x, y}, []any{v, e}, []any{float32(3*y + x + 1), api.OK})
		}
	}
	for _, x := range [][2]int{{3, 0}, {0, 2}, {-1, 0}, {0, -1}, {-1, 2}, {2, 3}, {3, 2}, {6, 0}, {-3, 1}, {math.MaxInt, 1}, {1, math.MaxInt}, {math.MinInt, math.MinInt}} {
		v, e := picture.At(chapter(), x[0], x[1])
		want(t, []any{"At", x}, []any{v, e}, []any{float32(0), api.ErrUnknown})
	}
}

// P1.2
func TestCropped(t *testing.T) {
	const width, height = 4, 3
	d := dice(1)
	p := named("source", d.picture(width, height, 16384))
	for from := -1; from <= width+1; from++ {
		for to := -1; to <= width+1; to++ {
			for low := -1; low <= height+1; low++ {
				for high := -1; high <= height+1; high++ {
					wanted, e := picture.Picture{}, api.ErrSpan
					if from >= 0 && from < to && to <= width && low >= 0 && low < high && high <= height {
						wanted, e = picture.Picture{Name: "source", Width: to - from, Height: high - low}, api.OK
						for i := range (to - from) * (high - low) {
							wanted.Samples = append(wanted.Samples, p.Samples[(low+i/(to-from))*width+from+i%(to-from)])
						}
					}
					q, f := picture.Cropped(p, api.Span{From: from, To: to}, api.Span{From: low, To: high})
					want(t, []any{"Cropped", from, to, low, high}, []any{q, f}, []any{wanted, e})
				}
			}
		}
	}
	all := api.Span{To: 1}
	for _, s := range []api.Span{{From: math.MinInt, To: math.MaxInt}, {From: 0, To: math.MaxInt}, {From: math.MaxInt, To: math.MinInt}, {From: math.MinInt, To: 1}} {
		q, e := picture.Cropped(p, s, all)
		r, f := picture.Cropped(p, all, s)
		want(t, s, []any{q, e, r, f}, []any{picture.Picture{}, api.ErrSpan, picture.Picture{}, api.ErrSpan})
	}
	q, e := picture.Cropped(chapter(), api.Span{From: 1, To: 3}, api.Span{From: 1, To: 2})
	want(t, "the chapter's part", []any{q, e}, []any{made(2, 1, 5, 6), api.OK})
}

// P1.2
func TestBesideAndAbove(t *testing.T) {
	p, e := picture.Beside(chapter(), chapter())
	want(t, "P beside itself", []any{p, e}, []any{made(6, 2, 1, 2, 3, 1, 2, 3, 4, 5, 6, 4, 5, 6), api.OK})
	p, e = picture.Beside(named("a", made(1, 2, 7, 8)), named("b", chapter()))
	want(t, "Beside", []any{p, e}, []any{named("a", made(4, 2, 7, 1, 2, 3, 8, 4, 5, 6)), api.OK})
	p, e = picture.Above(named("a", made(3, 1, 7, 8, 9)), named("b", chapter()))
	want(t, "Above", []any{p, e}, []any{named("a", made(3, 3, 7, 8, 9, 1, 2, 3, 4, 5, 6)), api.OK})
	p, e = picture.Above(named("b", chapter()), named("a", made(3, 1, 7, 8, 9)))
	want(t, "Above", []any{p, e}, []any{named("b", made(3, 3, 1, 2, 3, 4, 5, 6, 7, 8, 9)), api.OK})
	for _, x := range []struct {
		a, b picture.Picture
		e, f api.Errno
	}{
		{filled(1, 2, 0), filled(1, 1, 0), api.ErrShape, api.OK}, {filled(2, 1, 0), filled(1, 1, 0), api.OK, api.ErrShape}, {filled(1, 1, 0), filled(2, 2, 0), api.ErrShape, api.ErrShape},
		{filled(32, 1, 1), filled(32, 1, 1), api.OK, api.OK}, {filled(33, 1, 1), filled(32, 1, 1), api.ErrMany, api.ErrShape}, {filled(1, 64, 1), filled(1, 1, 1), api.ErrShape, api.ErrMany},
		{filled(64, 64, 1), filled(64, 64, 1), api.ErrMany, api.ErrMany}, {filled(64, 1, 1), filled(64, 2, 1), api.ErrShape, api.OK}, {filled(63, 2, 1), filled(1, 2, 1), api.OK, api.ErrShape},
		{filled(1, 32, 1), filled(1, 32, 1), api.OK, api.OK}, {filled(1, 33, 1), filled(1, 32, 1), api.ErrShape, api.ErrMany}, {filled(2, 64, 1), filled(1, 64, 1), api.OK, api.ErrShape},
	} {
		p, e := picture.Beside(x.a, x.b)
		q, f := picture.Above(x.a, x.b)
		wanted, above := picture.Picture{}, picture.Picture{}
		if x.e == api.OK {
			wanted = filled(x.a.Width+x.b.Width, x.a.Height, x.a.Samples[0])
		}
		if x.f == api.OK {
			above = filled(x.a.Width, x.a.Height+x.b.Height, x.a.Samples[0])
		}
		want(t, "Beside and Above", []any{p, e, q, f}, []any{wanted, x.e, above, x.f})
	}
}

// P1.2
func TestFlippedAndTransposed(t *testing.T) {
	p, e := picture.Flipped(named("f", chapter()))
	want(t, "Flipped", []any{p, e}, []any{named("f", made(3, 2, 3, 2, 1, 6, 5, 4)), api.OK})
	p, e = picture.Transposed(named("t", chapter()))
	want(t, "Transposed", []any{p, e}, []any{named("t", made(2, 3, 1, 4, 2, 5, 3, 6)), api.OK})
	d := dice(2)
	for _, size := range [][2]int{{1, 1}, {1, 5}, {5, 1}, {4, 4}, {7, 3}, {64, 64}, {64, 1}, {1, 64}} {
		width, height := size[0], size[1]
		p := d.picture(width, height, 16384)
		flipped, transposed := filled(width, height, 0), filled(height, width, 0)
		for i, x := range p.Samples {
			flipped.Samples[i/width*width+width-1-i%width] = x
			transposed.Samples[i%width*height+i/width] = x
		}
		q, e := picture.Flipped(p)
		r, f := picture.Transposed(p)
		want(t, size, []any{q, e, r, f}, []any{flipped, api.OK, transposed, api.OK})
	}
}

// P1.2
func TestFieldsAndWoven(t *testing.T) {
	for _, x := range []struct{ p, a, b picture.Picture }{
		{chapter(), made(3, 1, 1, 2, 3), made(3, 1, 4, 5, 6)},
		{made(1, 3, 1, 2, 3), made(1, 2, 1, 3), made(1, 1, 2)},
		{made(2, 4, 1, 2, 3, 4, 5, 6, 7, 8), made(2, 2, 1, 2, 5, 6), made(2, 2, 3, 4, 7, 8)},
		{made(1, 5, 1, 2, 3, 4, 5), made(1, 3, 1, 3, 5), made(1, 2, 2, 4)},
		{filled(64, 64, -3), filled(64, 32, -3), filled(64, 32, -3)},
		{filled(2, 63, 0.5), filled(2, 32, 0.5), filled(2, 31, 0.5)},
	} {
		x.p, x.a, x.b = named("w", x.p), named("w", x.a), named("w", x.b)
		fields, e := picture.Fields(x.p)
		p, f := picture.Woven(x.a, named("other", x.b))
		want(t, "Fields and Woven", []any{fields, e, p, f}, []any{[2]picture.Picture{x.a, x.b}, api.OK, x.p, api.OK})
	}
	for _, p := range []picture.Picture{filled(1, 1, 0), filled(64, 1, 1)} {
		fields, e := picture.Fields(p)
		want(t, "Fields of one row", []any{fields, e}, []any{[2]picture.Picture{}, api.ErrShort})
	}
	for _, x := range []struct {
		a, b picture.Picture
		e    api.Errno
	}{
		{filled(2, 1, 0), filled(1, 1, 0), api.ErrShape}, {filled(1, 1, 0), filled(2, 1, 0), api.ErrShape}, {filled(1, 1, 0), filled(1, 2, 0), api.ErrShape}, {filled(1, 3, 0), filled(1, 1, 0), api.ErrShape}, {filled(1, 64, 0), filled(1, 1, 0), api.ErrShape},
		{filled(1, 64, 0), filled(2, 64, 0), api.ErrShape}, {filled(1, 33, 0), filled(1, 34, 0), api.ErrShape},
		{filled(1, 33, 0), filled(1, 32, 0), api.ErrMany}, {filled(1, 33, 0), filled(1, 33, 0), api.ErrMany}, {filled(64, 64, 0), filled(64, 63, 0), api.ErrMany},
	} {
		p, e := picture.Woven(x.a, x.b)
		want(t, "Woven", []any{p, e}, []any{picture.Picture{}, x.e})
	}
}
