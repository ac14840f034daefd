package raster_test

import (
	"fmt"
	"testing"

	"genlock/api"
	"genlock/picture"
	"genlock/raster"
)

// results returns the results of a call as a list.
func results(l ...any) []any { return l }

// want compares the results of a call with the expected ones; nil and empty lists are equal.
func want(t *testing.T, what any, got []any, wanted ...any) {
	t.Helper()
	if g, w := fmt.Sprintf("%+v", got), fmt.Sprintf("%+v", wanted); g != w {
		t.Errorf("%+v: got %s, want %s", what, g, w)
	}
}

// sized returns a black picture.
func sized(width, height int) picture.Picture {
	return picture.Picture{Name: "p", Width: width, Height: height, Samples: make([]float32, width*height)}
}

func TestSize(t *testing.T) {
	want(t, "Size", results(raster.Size(sized(3, 2)), raster.Size(picture.Picture{})), [2]int{3, 2}, [2]int{})
}

func TestPicturesError(t *testing.T) {
	wrong := picture.Picture{Name: "9"}
	for _, x := range []struct {
		l []picture.Picture
		e api.Errno
	}{
		{nil, api.OK},
		{[]picture.Picture{sized(3, 2)}, api.OK},
		{[]picture.Picture{sized(3, 2), sized(3, 2), sized(3, 2)}, api.OK},
		{[]picture.Picture{sized(3, 2), sized(2, 3)}, api.ErrShape},
		{[]picture.Picture{sized(3, 2), sized(3, 2), sized(3, 1)}, api.ErrShape},
		{[]picture.Picture{wrong, sized(3, 2)}, api.ErrName},
		{[]picture.Picture{sized(3, 2), sized(2, 3), wrong}, api.ErrName},
	} {
		want(t, x, results(raster.PicturesError(x.l...)), x.e)
	}
}

func TestWithLevels(t *testing.T) {
	p := sized(2, 1)
	want(t, "WithLevels", results(raster.WithLevels(p, []int{-16384, 1})), picture.Picture{Name: "p", Width: 2, Height: 1, Samples: []float32{-1024, 0.0625}}, api.OK)
	want(t, "WithLevels", results(raster.WithLevels(p, []int{16384, 16385})), picture.Picture{}, api.ErrLarge)
	want(t, "WithLevels", results(raster.WithLevels(p, []int{-16385, 0})), picture.Picture{}, api.ErrLarge)
	want(t, "the picture", results(p), sized(2, 1))
}
