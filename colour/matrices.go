package colour

import (
	"slices"

	"genlock/api"
	"genlock/common"
)

// Matrix converts colours.
type Matrix struct {
	Rows [3][3]int
	Den  int
}

// others has, for each of the three indices, the two that follow it in a circle. In this order the signs of the cofactors come by themselves.
var others = [3][2]int{{1, 2}, {2, 0}, {0, 1}}

// CheckMatrix returns the first error of a matrix, or OK.
func CheckMatrix(m Matrix) api.Errno {
	return common.First(common.FirstOf(m.Rows[:], entriesError), common.Outside(m.Den, 1, MaxEntry))
}

// Converted returns the converted colour.
func Converted(m Matrix, colour [3]int) ([3]int, api.Errno) {
	if e := common.First(CheckMatrix(m), colourError(colour)); e != api.OK {
		return [3]int{}, e
	}
	converted := conversion(m, colour)
	if slices.ContainsFunc(converted[:], common.IsLarge) {
		return [3]int{}, api.ErrLarge
	}
	return converted, api.OK
}

// Composed returns the matrix composed of two.
func Composed(a, b Matrix) (Matrix, api.Errno) {
	if e := common.First(CheckMatrix(a), CheckMatrix(b)); e != api.OK {
		return Matrix{}, e
	}
	composed := lowest(product(a, b))
	if CheckMatrix(composed) != api.OK {
		return Matrix{}, api.ErrLarge
	}
	return composed, api.OK
}

// Determinant returns the determinant of a matrix.
func Determinant(m Matrix) (int, api.Errno) {
	if e := CheckMatrix(m); e != api.OK {
		return 0, e
	}
	return determinant(m), api.OK
}

// Inverted returns the inverse of a matrix.
func Inverted(m Matrix) ([3][3]api.Ratio, api.Errno) {
	if e := common.First(CheckMatrix(m), common.ErrorIf(determinant(m) == 0, api.ErrSingular)); e != api.OK {
		return [3][3]api.Ratio{}, e
	}
	var inverse [3][3]api.Ratio
	for i := range 3 {
		for k := range 3 {
			inverse[i][k] = common.Ratio(m.Den*cofactor(m, k, i), determinant(m))
		}
	}
	return inverse, api.OK
}

// Lost returns the lost colours of a cube.
func Lost(m Matrix, cube api.Interval) ([][3]int, api.Errno) {
	e := common.First(
		CheckMatrix(m),
		common.IntervalError(cube),
		common.ErrorIf(cube.High-cube.Low >= MaxCube, api.ErrLimit),
	)
	if e != api.OK {
		return nil, e
	}
	colours := coloursOf(cube)
	reached := map[[3]int]bool{}
	for _, colour := range colours {
		reached[conversion(m, colour)] = true
	}
	return slices.DeleteFunc(colours, func(colour [3]int) bool { return reached[colour] }), api.OK
}

// conversion returns what a colour is converted to; its numbers may not be levels.
func conversion(m Matrix, colour [3]int) [3]int {
	var converted [3]int
	for i, row := range m.Rows {
		converted[i] = common.Nearest(dot(row, colour), m.Den)
	}
	return converted
}

// product returns the matrix that converts as a and then b, without the rounding between.
func product(a, b Matrix) Matrix {
	both := Matrix{Den: a.Den * b.Den}
	for i, row := range b.Rows {
		for k := range 3 {
			both.Rows[i][k] = dot(row, [3]int{a.Rows[0][k], a.Rows[1][k], a.Rows[2][k]})
		}
	}
	return both
}

// lowest returns a matrix whose ten numbers are divided by their greatest common divisor.
func lowest(m Matrix) Matrix {
	by := m.Den
	for _, row := range m.Rows {
		for _, n := range row {
			by = common.Divisor(by, n)
		}
	}
	divided := Matrix{Den: m.Den / by}
	for i, row := range m.Rows {
		for k, n := range row {
			divided.Rows[i][k] = n / by
		}
	}
	return divided
}

// determinant returns the determinant of the nine entries.
func determinant(m Matrix) int {
	return dot(m.Rows[0], [3]int{cofactor(m, 0, 0), cofactor(m, 0, 1), cofactor(m, 0, 2)})
}

// cofactor returns the cofactor of the entry in a row and a column.
func cofactor(m Matrix, row, column int) int {
	r, c := others[row], others[column]
	return m.Rows[r[0]][c[0]]*m.Rows[r[1]][c[1]] - m.Rows[r[0]][c[1]]*m.Rows[r[1]][c[0]]
}

// coloursOf returns the colours of a cube, in the order of their levels.
func coloursOf(cube api.Interval) [][3]int {
	var l [][3]int
	side := cube.High - cube.Low + 1
	for i := range side {
		for j := range side {
			for k := range side {
				l = append(l, [3]int{cube.Low + i, cube.Low + j, cube.Low + k})
			}
		}
	}
	return l
}
