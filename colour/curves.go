package colour

import (
	"genlock/api"
	"genlock/common"
	"genlock/picture"
	"genlock/raster"
)

// Point is an input of a curve, and its output.
type Point struct {
	In  int
	Out int
}

// Curve is a table of inputs and outputs.
type Curve []Point

// CheckCurve returns the first error of a curve, or OK.
func CheckCurve(c Curve) api.Errno {
	e := common.First(common.ErrorIf(len(c) < 2, api.ErrShort), common.ErrorIf(len(c) > MaxPoints, api.ErrMany))
	if e != api.OK {
		return e
	}
	before := Point{In: -MaxLevel - 1, Out: -MaxLevel - 1} // below every point
	for _, p := range c {
		e := common.First(
			common.LevelError(p.In),
			common.LevelError(p.Out),
			common.ErrorIf(p.In <= before.In || p.Out <= before.Out, api.ErrOrder),
		)
		if e != api.OK {
			return e
		}
		before = p
	}
	return api.OK
}

// Value returns the value of a curve at a level.
func Value(c Curve, level int) (int, api.Errno) {
	if e := common.First(CheckCurve(c), common.LevelError(level)); e != api.OK {
		return 0, e
	}
	return pointAt(c, level).Out, api.OK
}

// Applied returns the picture to which a curve is applied.
func Applied(c Curve, p picture.Picture) (picture.Picture, api.Errno) {
	if e := common.First(CheckCurve(c), picture.CheckPicture(p)); e != api.OK {
		return picture.Picture{}, e
	}
	return raster.WithLevels(p, common.Mapped(common.Levels(p.Samples), func(level int) int {
		return pointAt(c, level).Out
	}))
}

// Inverse returns the inverse of a curve.
func Inverse(c Curve) (Curve, api.Errno) {
	if e := CheckCurve(c); e != api.OK {
		return nil, e
	}
	return changed(c, Point.exchanged), api.OK
}

// Survives reports whether a level survives a curve.
func Survives(c Curve, level int) (bool, api.Errno) {
	if e := common.First(CheckCurve(c), common.LevelError(level)); e != api.OK {
		return false, e
	}
	there := pointAt(c, level)
	back := pointAt(changed(c, Point.exchanged), there.Out)
	return back == there.exchanged(), api.OK
}

// Knee returns the knee with a level and a divisor.
func Knee(at, by int) (Curve, api.Errno) {
	if e := common.First(common.Outside(at, 0, MaxLevel-1), common.Outside(by, 1, MaxKnee)); e != api.OK {
		return nil, e
	}
	rise := (MaxLevel - at + by - 1) / by
	return Curve{{In: -MaxLevel, Out: -MaxLevel}, {In: at, Out: at}, {In: MaxLevel, Out: at + rise}}, api.OK
}

// exchanged returns the point with In and Out exchanged.
func (p Point) exchanged() Point {
	return Point{In: p.Out, Out: p.In}
}

// changed returns a copy of a curve in which each point is changed.
func changed(c Curve, change func(Point) Point) Curve {
	l := make(Curve, len(c))
	copy(l, c)
	for i, p := range l {
		l[i] = change(p)
	}
	return l
}

// pointAt returns a level with the value of a curve at it.
func pointAt(c Curve, level int) Point {
	p := c[0]
	if level <= p.In {
		return Point{In: level, Out: p.Out}
	}
	for _, q := range c[1:] {
		if level <= q.In {
			rise := common.Nearest((q.Out-p.Out)*(level-p.In), q.In-p.In)
			return Point{In: level, Out: p.Out + rise}
		}
		p = q
	}
	return Point{In: level, Out: p.Out}
}
