// Package picture is layer 1: names, ratios, samples, pictures, panels, packets, texts and streams. See shared/doc/01-picture.md.
package picture

import (
	"genlock/api"
	"genlock/common"
)

// Limits of pictures and packets, and the form of frames.
const (
	MaxScale   = 1000
	MaxPackets = 1024
	Size       = 16
	Sync       = 171
)

// Picture is rows of samples with a name.
type Picture struct {
	Name    string
	Width   int
	Height  int
	Samples []float32
}

// CheckPicture returns the first error of a picture, or OK.
func CheckPicture(p Picture) api.Errno {
	e := common.First(
		common.ErrorIf(!IsName(p.Name), api.ErrName),
		common.Outside(p.Width, 1, api.MaxSide),
		common.Outside(p.Height, 1, api.MaxSide),
		common.ErrorIf(len(p.Samples) != p.Width*p.Height, api.ErrShape),
	)
	if e != api.OK {
		return e
	}
	return common.FirstOf(p.Samples, CheckSample)
}

// At returns the sample in a column and a row.
func At(p Picture, x, y int) (float32, api.Errno) {
	e := common.First(
		CheckPicture(p),
		common.ErrorIf(x < 0 || x >= p.Width, api.ErrUnknown),
		common.ErrorIf(y < 0 || y >= p.Height, api.ErrUnknown),
	)
	if e != api.OK {
		return 0, e
	}
	return row(p, y)[x], api.OK
}

// Cropped returns the part in some columns and rows.
func Cropped(p Picture, columns, rows api.Span) (Picture, api.Errno) {
	e := common.First(CheckPicture(p), common.SpanError(columns, p.Width), common.SpanError(rows, p.Height))
	if e != api.OK {
		return Picture{}, e
	}
	part := blank(p.Name, columns.To-columns.From, rows.To-rows.From)
	for y := range part.Height {
		copy(row(part, y), row(p, rows.From+y)[columns.From:columns.To])
	}
	return part, api.OK
}

// Beside returns two pictures beside each other.
func Beside(a, b Picture) (Picture, api.Errno) {
	e := common.First(
		CheckPicture(a),
		CheckPicture(b),
		common.ErrorIf(a.Height != b.Height, api.ErrShape),
		common.ErrorIf(a.Width+b.Width > api.MaxSide, api.ErrMany),
	)
	if e != api.OK {
		return Picture{}, e
	}
	both := blank(a.Name, a.Width+b.Width, a.Height)
	for y := range both.Height {
		copy(row(both, y), row(a, y))
		copy(row(both, y)[a.Width:], row(b, y))
	}
	return both, api.OK
}

// Above returns a picture above another one.
func Above(a, b Picture) (Picture, api.Errno) {
	e := common.First(
		CheckPicture(a),
		CheckPicture(b),
		common.ErrorIf(a.Width != b.Width, api.ErrShape),
		common.ErrorIf(a.Height+b.Height > api.MaxSide, api.ErrMany),
	)
	if e != api.OK {
		return Picture{}, e
	}
	both := blank(a.Name, a.Width, a.Height+b.Height)
	copy(both.Samples, a.Samples)
	copy(both.Samples[len(a.Samples):], b.Samples)
	return both, api.OK
}

// Flipped returns the flipped picture.
func Flipped(p Picture) (Picture, api.Errno) {
	if e := CheckPicture(p); e != api.OK {
		return Picture{}, e
	}
	flipped := blank(p.Name, p.Width, p.Height)
	for y := range p.Height {
		from, to := row(p, y), row(flipped, y)
		for x := range p.Width {
			to[p.Width-1-x] = from[x]
		}
	}
	return flipped, api.OK
}

// Transposed returns the transposed picture.
func Transposed(p Picture) (Picture, api.Errno) {
	if e := CheckPicture(p); e != api.OK {
		return Picture{}, e
	}
	transposed := blank(p.Name, p.Height, p.Width)
	for y := range p.Height {
		for x := range p.Width {
			row(transposed, x)[y] = row(p, y)[x]
		}
	}
	return transposed, api.OK
}

// Fields returns both fields of a picture.
func Fields(p Picture) ([2]Picture, api.Errno) {
	e := common.First(CheckPicture(p), common.ErrorIf(p.Height == 1, api.ErrShort))
	if e != api.OK {
		return [2]Picture{}, e
	}
	fields := [2]Picture{
		blank(p.Name, p.Width, (p.Height+1)/2),
		blank(p.Name, p.Width, p.Height/2),
	}
	for y := range p.Height {
		copy(row(fields[y%2], y/2), row(p, y))
	}
	return fields, api.OK
}

// Woven returns the picture with two fields.
func Woven(a, b Picture) (Picture, api.Errno) {
	e := common.First(
		CheckPicture(a),
		CheckPicture(b),
		common.ErrorIf(a.Width != b.Width, api.ErrShape),
		common.ErrorIf(a.Height != b.Height && a.Height != b.Height+1, api.ErrShape),
		common.ErrorIf(a.Height+b.Height > api.MaxSide, api.ErrMany),
	)
	if e != api.OK {
		return Picture{}, e
	}
	fields := [2]Picture{a, b}
	woven := blank(a.Name, a.Width, a.Height+b.Height)
	for y := range woven.Height {
		copy(row(woven, y), row(fields[y%2], y/2))
	}
	return woven, api.OK
}

// blank returns a picture whose samples are 0.
func blank(name string, width, height int) Picture {
	return Picture{Name: name, Width: width, Height: height, Samples: make([]float32, width*height)}
}

// row returns the samples of a row, in the memory of the picture.
func row(p Picture, y int) []float32 {
	return p.Samples[y*p.Width : (y+1)*p.Width]
}
