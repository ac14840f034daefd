package colour_test

import (
	"math/big"
	"slices"
	"testing"

	"genlock/api"
	"genlock/colour"
	"genlock/picture"
)

// must returns a result that has no error.
func must[T any](t *testing.T) func(x T, e api.Errno) T {
	return func(x T, e api.Errno) T {
		t.Helper()
		if e != api.OK {
			t.Fatalf("error %d", e)
		}
		return x
	}
}

// P2.6 and P2: a curve never descends, keeps its points, and is undone by its inverse.
func TestCurvesAreUndone(t *testing.T) {
	d, number, whole := dice(1), must[int](t), must[colour.Curve](t)
	for range 200 {
		c := d.curve(-60, 60)
		inverse := whole(colour.Inverse(c))
		want(t, c, results(whole(colour.Inverse(inverse))), c)
		for _, p := range c {
			want(t, c, results(number(colour.Value(c, p.In)), number(colour.Value(inverse, p.Out)), must[bool](t)(colour.Survives(c, p.In))), p.Out, p.In, true)
		}
		for level := -65; level < 65; level++ {
			value, next := number(colour.Value(c, level)), number(colour.Value(c, level+1))
			if value > next || value < c[0].Out || value > c[len(c)-1].Out {
				t.Errorf("%v: at %d is %d, then %d", c, level, value, next)
			}
			between := level >= c[0].In && level <= c[len(c)-1].In
			survives := must[bool](t)(colour.Survives(c, level))
			want(t, results(c, level), results(survives), between && number(colour.Value(inverse, value)) == level)
			if between && steep(c) && !survives {
				t.Errorf("%v: %d does not survive", c, level)
			}
		}
	}
	for range 100 { // nowhere flatter than the diagonal
		c := colour.Curve{{In: d.level(50), Out: d.level(50)}}
		for range 1 + d.below(15) {
			in := 1 + d.below(20)
			p := c[len(c)-1]
			c = append(c, colour.Point{In: p.In + in, Out: p.Out + in + d.below(2)*d.below(50)})
		}
		for level := c[0].In; level <= c[len(c)-1].In; level++ {
			want(t, results(c, level), results(colour.Survives(c, level)), true, api.OK)
		}
	}
}

// steep reports whether a curve is nowhere flatter than the diagonal.
func steep(c colour.Curve) bool {
	for i, p := range c[1:] {
		if p.Out-c[i].Out < p.In-c[i].In {
			return false
		}
	}
	return true
}

// rounded returns num / den, rounded to the nearest integer, from the middle to the greater one.
func rounded(num, den int) int {
	doubled := new(big.Int).Add(new(big.Int).Mul(big.NewInt(2), big.NewInt(int64(num))), big.NewInt(int64(den)))
	quotient := new(big.Int).Div(doubled, big.NewInt(int64(2*den))) // Div rounds down if the divisor is above 0
	return int(quotient.Int64())
}

// valueOf returns the value of a curve at a level by its definition.
func valueOf(c colour.Curve, level int) int {
	last := c[len(c)-1]
	switch {
	case level <= c[0].In:
		return c[0].Out
	case level >= last.In:
		return last.Out
	}
	at := slices.IndexFunc(c, func(p colour.Point) bool { return p.In > level })
	p, q := c[at-1], c[at]
	return rounded(p.Out*(q.In-p.In)+(q.Out-p.Out)*(level-p.In), q.In-p.In)
}

// P2.1: values, also those of a whole picture.
func TestValuesByTheirDefinition(t *testing.T) {
	d := dice(2)
	for range 50 {
		c := d.curve(-16384, 16384)
		l := d.levels(64*3, 16384)
		var values []int
		for _, level := range l {
			values = append(values, valueOf(c, level))
			want(t, results(c, level), results(colour.Value(c, level)), valueOf(c, level), api.OK)
		}
		want(t, c, results(colour.Applied(c, made(64, 3, l...))), made(64, 3, values...), api.OK)
	}
}

// P2.3: what is shaded, and the luma, are rounded once.
func TestLevelsAreRoundedOnce(t *testing.T) {
	d := dice(12)
	for range 100 {
		l := [3][]int{d.levels(12, 4096), d.levels(12, 4096), d.levels(12, 4096)}
		p := [3]picture.Picture{made(4, 3, l[0]...), made(4, 3, l[1]...), made(4, 3, l[2]...)}
		var columns, rows, shaded, luma []int
		for i := range 12 {
			columns, rows = append(columns, d.below(513)), append(rows, d.below(513))
			shaded = append(shaded, rounded(l[0][i]*columns[i%4]*rows[i/4], 65536))
		}
		first := d.below(257)
		second := d.below(257 - first)
		weights := [3]int{first, second, 256 - first - second}
		for i := range 12 {
			luma = append(luma, rounded(l[0][i]*weights[0]+l[1][i]*weights[1]+l[2][i]*weights[2], 256))
		}
		want(t, results(columns[:4], rows[:3]), results(colour.Shaded(p[0], columns[:4], rows[:3])), made(4, 3, shaded...), api.OK)
		want(t, weights, results(colour.Luma(p, weights)), made(4, 3, luma...), api.OK)
	}
}

// P2.6 and P2: a matrix times its inverse is the unit matrix.
func TestMatricesAreUndone(t *testing.T) {
	d := dice(3)
	for i := range 300 {
		m := d.matrix([]int{2, 9, 100, 4096}[i%4])
		determinant := must[int](t)(colour.Determinant(m))
		inverse, e := colour.Inverted(m)
		if determinant == 0 {
			want(t, m, results(inverse, e), [3][3]api.Ratio{}, api.ErrSingular)
			continue
		}
		want(t, m, results(e), api.OK)
		for i := range 3 {
			for k := range 3 {
				sum := new(big.Rat)
				for j := range 3 {
					x := inverse[j][k]
					sum.Add(sum, new(big.Rat).Mul(big.NewRat(int64(m.Rows[i][j]), int64(m.Den)), big.NewRat(int64(x.Num), int64(x.Den))))
					lowest := big.NewRat(int64(x.Num), int64(x.Den))
					if lowest.Num().Int64() != int64(x.Num) || lowest.Denom().Int64() != int64(x.Den) {
						t.Errorf("%v: %v is not in lowest terms", m, x)
					}
				}
				unit := new(big.Rat)
				if i == k {
					unit.SetInt64(1)
				}
				if sum.Cmp(unit) != 0 {
					t.Errorf("%v times %v: at %d, %d is %v", m, inverse, i, k, sum)
				}
			}
		}
	}
}

// P2.6: a composed matrix converts as both would without the rounding between.
func TestComposedConvertsAsBoth(t *testing.T) {
	d := dice(4)
	for range 500 {
		a, b, c := d.matrix(9), d.matrix(9), d.colour(100)
		m := must[colour.Matrix](t)(colour.Composed(a, b))
		var between, both [3]int
		for i := range 3 {
			for k := range 3 {
				between[i] += a.Rows[i][k] * c[k]
			}
		}
		for i := range 3 {
			sum := 0
			for k := range 3 {
				sum += b.Rows[i][k] * between[k]
			}
			both[i] = rounded(sum, a.Den*b.Den)
		}
		want(t, results(a, b, c), results(colour.Converted(m, c)), both, api.OK)
		want(t, results(a, b), results(must[int](t)(colour.Determinant(m))*a.Den*a.Den*a.Den*b.Den*b.Den*b.Den), must[int](t)(colour.Determinant(a))*must[int](t)(colour.Determinant(b))*m.Den*m.Den*m.Den)
	}
}

// P2.6: lost and reached colours are all colours of the cube.
func TestLostAndReached(t *testing.T) {
	d := dice(5)
	for range 200 {
		m := d.matrix(4)
		low := d.level(8)
		cube := api.Interval{Low: low, High: low + d.below(5)}
		var all, lost [][3]int
		reached := map[[3]int]bool{}
		for i := cube.Low; i <= cube.High; i++ {
			for j := cube.Low; j <= cube.High; j++ {
				for k := cube.Low; k <= cube.High; k++ {
					all = append(all, [3]int{i, j, k})
					reached[must[[3]int](t)(colour.Converted(m, [3]int{i, j, k}))] = true
				}
			}
		}
		for _, c := range all {
			if !reached[c] {
				lost = append(lost, c)
			}
		}
		want(t, results(m, cube), results(colour.Lost(m, cube)), lost, api.OK)
	}
}

// P2.6 and P2: a place is a violation exactly if its colour is not legal, and its plane is the first one that does not permit it.
func TestViolationsAreNotLegal(t *testing.T) {
	d := dice(6)
	for range 200 {
		g := make([]colour.Plane, d.below(5))
		for i := range g {
			g[i] = colour.Plane{Normal: d.colour(5), Most: d.level(300)}
		}
		l := [3][]int{d.levels(12, 50), d.levels(12, 50), d.levels(12, 50)}
		p := [3]picture.Picture{made(4, 3, l[0]...), made(4, 3, l[1]...), made(4, 3, l[2]...)}
		violations := must[[]colour.Violation](t)(colour.Violations(g, p))
		for place := range 12 {
			c := [3]int{l[0][place], l[1][place], l[2][place]}
			at := slices.IndexFunc(violations, func(v colour.Violation) bool { return v.Place == place })
			want(t, results(g, c), results(colour.Legal(g, c)), at < 0, api.OK)
			for i := range g {
				legal := must[bool](t)(colour.Legal(g[:i+1], c))
				want(t, results(g[:i+1], c), results(legal), at < 0 || i < violations[at].Plane)
			}
		}
		if !slices.IsSortedFunc(violations, func(a, b colour.Violation) int { return a.Place - b.Place }) {
			t.Errorf("%v", violations)
		}
	}
}

// P2.6: what is clipped twice is clipped once.
func TestClippedTwice(t *testing.T) {
	d := dice(7)
	for range 50 {
		limits := api.Interval{Low: d.level(9000), High: 9000 + d.below(7000)}
		p := made(9, 7, d.levels(63, 16384)...)
		once := must[picture.Picture](t)(colour.Clipped(p, limits))
		want(t, limits, results(colour.Clipped(once, limits)), once, api.OK)
		for i, x := range once.Samples {
			n := int(16 * p.Samples[i])
			want(t, n, results(int(16*x)), min(max(n, limits.Low), limits.High))
		}
	}
}

// P2.6: a limit that is broken is broken by each lesser one, and frames break it by the flashes before them.
func TestLesserLimitsAreBroken(t *testing.T) {
	d, list := dice(8), must[[]int](t)
	for range 60 {
		l := make([]picture.Picture, d.below(20))
		for i := range l {
			l[i] = made(3, 1, d.levels(3, 2)...)
		}
		step := float32(d.below(3)) / 16
		flashes := list(colour.Flashes(l, step))
		var expected []int
		for n := range l {
			if n == 0 {
				continue
			}
			a, b := must[api.Ratio](t)(picture.Mean(l[n-1])), must[api.Ratio](t)(picture.Mean(l[n]))
			difference := new(big.Rat).Sub(big.NewRat(int64(a.Num), int64(a.Den)), big.NewRat(int64(b.Num), int64(b.Den)))
			if difference.Abs(difference).Cmp(new(big.Rat).SetFloat64(float64(step))) > 0 {
				expected = append(expected, n)
			}
		}
		want(t, "flashes", results(flashes), expected)
		for window := 1; window < 6; window++ {
			greater := []int(nil)
			for most := 5; most >= 0; most-- {
				broken := list(colour.Broken(l, step, most, window))
				for _, n := range greater {
					if !slices.Contains(broken, n) {
						t.Errorf("%d flashes of %d are too many at %d, but %d are not", most+1, window, n, most)
					}
				}
				for n := range l {
					count := 0
					for _, flash := range flashes {
						if flash > n-window && flash <= n {
							count++
						}
					}
					want(t, results(most, window, n), results(slices.Contains(broken, n)), count > most)
				}
				greater = broken
			}
		}
	}
}

// P2.6: loudness does not depend on the sign of the sound, and is four times as great for twice the sound.
func TestLoudnessOfOtherSounds(t *testing.T) {
	d, list := dice(9), must[[]int](t)
	for range 100 {
		l := d.levels(d.below(60), 8192)
		taps := d.levels(1+d.below(8), 100)
		block := 1 + d.below(20)
		var negative, twice, sums []int
		for _, n := range l {
			negative, twice = append(negative, -n), append(twice, 2*n)
		}
		loudness := list(colour.Loudness(samples(l...), taps, block))
		for _, sum := range loudness {
			sums = append(sums, 4*sum)
		}
		want(t, "another sign", results(colour.Loudness(samples(negative...), taps, block)), loudness, api.OK)
		want(t, "twice the sound", results(colour.Loudness(samples(twice...), taps, block)), sums, api.OK)
		limit := d.below(1 << 30)
		var loud []int
		for i, sum := range loudness {
			if sum > limit {
				loud = append(loud, i)
			}
		}
		want(t, limit, results(colour.Loud(samples(l...), taps, block, limit)), loud, api.OK)
	}
}

// P2.6: curves are parsed as they were printed.
func TestTextsComeBack(t *testing.T) {
	d := dice(10)
	for range 300 {
		c := d.curve(-16384, 16384)
		text := must[string](t)(colour.Print(c))
		want(t, text, results(colour.Parse(text)), c, 0, api.OK)
	}
}
