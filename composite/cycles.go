package composite

import (
	"iter"

	"genlock/common"
)

// cycle is the integers of four successive samples.
type cycle [Quarters]int

// cyclesOf returns the cycles of a signal, with their numbers.
func cyclesOf(l []float32) iter.Seq2[int, cycle] {
	return func(yield func(int, cycle) bool) {
		for c := range len(l) / Quarters {
			if !yield(c, cycleAt(l, c)) {
				return
			}
		}
	}
}

// cycleAt returns a cycle of a signal.
func cycleAt(l []float32, c int) cycle {
	return cycle(common.Levels(l[Quarters*c : Quarters*(c+1)]))
}

// signOf returns the sign of a line.
func signOf(line int) int {
	if line%2 == 0 {
		return 1
	}
	return -1
}

// carrier returns the carrier of U and V in a line whose sign is 1.
func carrier(colour [2]int) cycle {
	u, v := colour[0], colour[1]
	return cycle{u, v, -u, -v}
}

// plus returns the cycle plus a multiple of another one.
func (c cycle) plus(times int, other cycle) cycle {
	for m, n := range other {
		c[m] += times * n
	}
	return c
}

// opposite returns the differences of the samples 0 and 2, and 1 and 3.
func (c cycle) opposite() [2]int {
	return [2]int{c[0] - c[2], c[1] - c[3]}
}

// isFlat reports whether the samples 0 and 2, and 1 and 3, are equal.
func (c cycle) isFlat() bool {
	return c == cycle{c[0], c[1], c[0], c[1]}
}

// distance returns the sum of the absolute values of the differences of two cycles.
func distance(a, b cycle) int {
	sum := 0
	for _, n := range a.plus(-1, b) {
		sum += max(n, -n)
	}
	return sum
}
