package picture_test

import (
	"math"
	"slices"
	"testing"

	"genlock/api"
	"genlock/picture"
)

// The tests use the exported functions alone, so that they hold for every implementation of the chapter.

var (
	nan      = float32(math.NaN())
	infinite = float32(math.Inf(1))
	minus0   = float32(math.Copysign(0, -1))
)

// want compares results with the expected ones; nil and empty lists are equal, and so are 0 and -0.
func want(t *testing.T, what any, got, wanted []any) {
	t.Helper()
	if len(got) != len(wanted) || !slices.EqualFunc(got, wanted, alike) {
		t.Errorf("%v: got %v, want %v", what, got, wanted)
	}
}

func alike(a, b any) bool {
	switch x := a.(type) {
	case picture.Picture:
		y, ok := b.(picture.Picture)
		return ok && alikePictures(x, y)
	case [2]picture.Picture:
		y, ok := b.([2]picture.Picture)
		return ok && alikePictures(x[0], y[0]) && alikePictures(x[1], y[1])
	case []int:
		return alikeLists(x, b)
	case []byte:
		return alikeLists(x, b)
	case []picture.Packet:
		return alikeLists(x, b)
	case []api.Span:
		return alikeLists(x, b)
	}
	return a == b
}

func alikePictures(a, b picture.Picture) bool {
	return a.Name == b.Name && a.Width == b.Width && a.Height == b.Height && slices.Equal(a.Samples, b.Samples)
}

func alikeLists[T comparable](a []T, b any) bool {
	y, ok := b.([]T)
	return ok && slices.Equal(a, y)
}

// made returns a picture with the name p.
func made(width, height int, l ...float32) picture.Picture {
	return picture.Picture{Name: "p", Width: width, Height: height, Samples: l}
}

// filled returns a picture with the same sample everywhere.
func filled(width, height int, x float32) picture.Picture {
	return made(width, height, slices.Repeat([]float32{x}, width*height)...)
}

// named returns the picture with another name.
func named(name string, p picture.Picture) picture.Picture {
	p.Name = name
	return p
}

// chapter returns the picture P of the chapter's examples.
func chapter() picture.Picture { return made(3, 2, 1, 2, 3, 4, 5, 6) }

// dice are numbers that are the same in every run.
type dice uint64

func (d *dice) below(n int) int {
	*d = *d*6364136223846793005 + 1442695040888963407
	return int(uint64(*d) >> 33 % uint64(n))
}

// sample returns a sample whose level is from -most to most.
func (d *dice) sample(most int) float32 {
	return float32(d.below(2*most+1)-most) / 16
}

// picture returns a picture whose levels are from -most to most.
func (d *dice) picture(width, height, most int) picture.Picture {
	p := filled(width, height, 0)
	for i := range p.Samples {
		p.Samples[i] = d.sample(most)
	}
	return p
}

// wrongPictures are pictures with an error, each with its first one.
var wrongPictures = []struct {
	p picture.Picture
	e api.Errno
}{
	{picture.Picture{}, api.ErrName},
	{picture.Picture{Name: "9", Width: -1, Height: -1, Samples: []float32{nan}}, api.ErrName},
	{named("p q", filled(1, 1, 0)), api.ErrName},
	{named("abcdefghijklmnopqrstuvwxy", filled(1, 1, 0)), api.ErrName},
	{made(0, 1), api.ErrRange},
	{made(65, 1, make([]float32, 65)...), api.ErrRange},
	{made(-1, -1, 0), api.ErrRange},
	{made(-2, 1, nan), api.ErrRange},
	{made(1, 0), api.ErrRange},
	{made(1, 65, make([]float32, 65)...), api.ErrRange},
	{made(1, -1, nan), api.ErrRange},
	{made(math.MinInt, 1), api.ErrRange},
	{made(math.MaxInt, math.MaxInt, 1), api.ErrRange},
	{made(1<<32, 1<<32), api.ErrRange},
	{made(2, 2), api.ErrShape},
	{made(2, 2, 1, 2, 3), api.ErrShape},
	{made(2, 2, 1, 2, 3, 4, 5), api.ErrShape},
	{made(2, 2, 1, nan, 3), api.ErrShape},
	{made(2, 2, 1, nan, 0.01, 4), api.ErrForm},
	{made(2, 2, 1, 0.01, nan, 4), api.ErrRange},
	{made(2, 2, 1, 2, 3, infinite), api.ErrForm},
	{made(2, 2, 1, 2, 3, -infinite), api.ErrForm},
	{made(2, 2, 1, 2, 3, 1024.0625), api.ErrRange},
	{made(2, 2, -1024.0625, 2, 3, 4), api.ErrRange},
}

// oneArgument has the functions of a picture alone; each returns its result, the zero value of it, and the error.
func oneArgument(p picture.Picture) map[string][]any {
	all := map[string][]any{}
	whole, e := picture.Flipped(p)
	all["Flipped"] = []any{whole, picture.Picture{}, e}
	whole, e = picture.Transposed(p)
	all["Transposed"] = []any{whole, picture.Picture{}, e}
	fields, e := picture.Fields(p)
	all["Fields"] = []any{fields, [2]picture.Picture{}, e}
	n, e := picture.Energy(p)
	all["Energy"] = []any{n, 0, e}
	n, e = picture.Peak(p)
	all["Peak"] = []any{n, 0, e}
	mean, e := picture.Mean(p)
	all["Mean"] = []any{mean, api.Ratio{}, e}
	stream, e := picture.Pack(p)
	all["Pack"] = []any{stream, []byte(nil), e}
	text, e := picture.Print(p)
	all["Print"] = []any{text, "", e}
	return all
}

// furtherArguments has the functions of a picture and numbers or spans.
func furtherArguments(p picture.Picture, a, b int) map[string][]any {
	all := map[string][]any{}
	x, e := picture.At(p, a, b)
	all["At"] = []any{x, float32(0), e}
	q, e := picture.Cropped(p, api.Span{From: a, To: b}, api.Span{From: a, To: b})
	all["Cropped"] = []any{q, picture.Picture{}, e}
	q, e = picture.Scaled(p, a, b)
	all["Scaled"] = []any{q, picture.Picture{}, e}
	return all
}

// twoArguments has the functions of two pictures.
func twoArguments(a, b picture.Picture) map[string][]any {
	all := map[string][]any{}
	for name, f := range map[string]func(a, b picture.Picture) (picture.Picture, api.Errno){"Beside": picture.Beside, "Above": picture.Above, "Sum": picture.Sum, "Woven": picture.Woven} {
		p, e := f(a, b)
		all[name] = []any{p, picture.Picture{}, e}
	}
	return all
}
