package mixer

import (
	"iter"

	"genlock/api"
	"genlock/common"
	"genlock/picture"
	"genlock/raster"
)

// tile is a span of columns and one of rows.
type tile struct {
	columns api.Span
	rows    api.Span
}

// composed is a node that is composed in a tile of pictures, with the levels of its inputs there.
type composed struct {
	Node
	tile
	pictures []picture.Picture
	under    [3][]int
}

// ranged is a node with the ranges of the sources, and of its inputs.
type ranged struct {
	Node
	sources []api.Interval
	under   [3]api.Interval
}

// Composed returns the picture of a tree.
func Composed(t []Node, l []picture.Picture) (picture.Picture, api.Errno) {
	if e := boardError(t, l); e != api.OK {
		return picture.Picture{}, e
	}
	return composedIn(whole(l[0].Width, l[0].Height), t, l)
}

// Tile returns the picture of a tile of a tree.
func Tile(t []Node, l []picture.Picture, columns, rows api.Span) (picture.Picture, api.Errno) {
	if e := boardError(t, l); e != api.OK { // otherwise there is a first picture, which has the size
		return picture.Picture{}, e
	}
	e := common.First(common.SpanError(columns, l[0].Width), common.SpanError(rows, l[0].Height))
	if e != api.OK {
		return picture.Picture{}, e
	}
	return composedIn(tile{columns, rows}, t, l)
}

// Ranges returns the ranges of all nodes.
func Ranges(t []Node, sources []api.Interval) ([]api.Interval, api.Errno) {
	e := common.First(
		CheckTree(t),
		common.ErrorIf(len(sources) > MaxPictures, api.ErrMany),
		common.FirstOf(sources, common.IntervalError),
		sourcesError(t, len(sources)),
	)
	if e != api.OK {
		return nil, e
	}
	return evaluated(t, func(k kind, n Node, under [3]api.Interval) api.Interval {
		return k.extent(ranged{n, sources, under})
	}), api.OK
}

// boardError returns the error of a tree, and of pictures for it, or OK.
func boardError(t []Node, l []picture.Picture) api.Errno {
	return common.First(
		CheckTree(t),
		common.ErrorIf(len(l) == 0, api.ErrEmpty),
		common.ErrorIf(len(l) > MaxPictures, api.ErrMany),
		raster.PicturesError(l...),
		sourcesError(t, len(l)),
	)
}

// sourcesError returns ErrUnknown if a tree has a source whose number is no index of n things, otherwise OK.
func sourcesError(t []Node, n int) api.Errno {
	return common.FirstOf(t, func(node Node) api.Errno {
		return common.ErrorIf(node.Kind == source && node.Number >= n, api.ErrUnknown)
	})
}

// composedIn returns the picture of a sound tree in a tile of its pictures.
func composedIn(in tile, t []Node, l []picture.Picture) (picture.Picture, api.Errno) {
	levels := evaluated(t, func(k kind, n Node, under [3][]int) []int {
		return k.levels(composed{n, in, l, under})
	})
	p := picture.Picture{Name: l[0].Name, Width: in.width(), Height: in.height()}
	return raster.WithLevels(p, levels[len(t)-1])
}

// evaluated returns for each node of a sound tree what becomes of it, by what has become of its inputs.
func evaluated[T any](t []Node, evaluate func(k kind, n Node, under [3]T) T) []T {
	known := kinds()
	l := make([]T, len(t))
	for i, n := range t {
		var under [3]T
		for place, input := range n.inputs() { // what the node does not use is 0, and is not looked at
			under[place] = l[input]
		}
		l[i] = evaluate(known[n.Kind], n, under)
	}
	return l
}

func (c composed) source() []int {
	p := c.pictures[c.Number]
	return c.each(func(x, y int) int { return common.Level(p.Samples[y*p.Width+x]) })
}

// matte returns the number of the node everywhere.
func (c composed) matte() []int {
	return c.each(func(int, int) int { return c.Number })
}

func (c composed) mix() []int {
	return c.mixed(c.matte())
}

func (c composed) wipe() []int {
	return c.mixed(c.Wipe.key(c.tile))
}

func (c composed) key() []int {
	return c.mixed(common.Mapped(c.under[2], c.Slope.share))
}

// mixed returns the mix of both first inputs by a key.
func (c composed) mixed(key []int) []int {
	return blended(c.under[0], c.under[1], key, mix)
}

func (r ranged) source() api.Interval {
	return r.sources[r.Number]
}

func (r ranged) matte() api.Interval {
	return api.Interval{Low: r.Number, High: r.Number}
}

// both returns the range of a mix of both first inputs.
func (r ranged) both() api.Interval {
	a, b := r.under[0], r.under[1]
	return api.Interval{Low: min(a.Low, b.Low), High: max(a.High, b.High)}
}

// whole returns the tile of a whole picture.
func whole(width, height int) tile {
	return tile{api.Span{To: width}, api.Span{To: height}}
}

func (t tile) width() int {
	return t.columns.To - t.columns.From
}

func (t tile) height() int {
	return t.rows.To - t.rows.From
}

// places returns the columns and the rows of the samples of the tile, row by row.
func (t tile) places() iter.Seq2[int, int] {
	return func(yield func(x, y int) bool) {
		for y := range t.height() {
			for x := range t.width() {
				if !yield(t.columns.From+x, t.rows.From+y) {
					return
				}
			}
		}
	}
}

// each returns what is at each place of the tile, row by row.
func (t tile) each(at func(x, y int) int) []int {
	var l []int
	for x, y := range t.places() {
		l = append(l, at(x, y))
	}
	return l
}
