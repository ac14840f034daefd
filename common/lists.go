package common

// Mapped returns a list of what becomes of each element of another one.
func Mapped[A, B any](l []A, change func(A) B) []B {
	changed := make([]B, len(l))
	for i, x := range l {
		changed[i] = change(x)
	}
	return changed
}

// Paired returns a list of what becomes of the elements of two lists with one length, two by two.
func Paired[A, B, C any](a []A, b []B, change func(A, B) C) []C {
	changed := make([]C, len(a))
	for i, x := range a {
		changed[i] = change(x, b[i])
	}
	return changed
}

// Indices returns the indices of the elements of a list for which something holds, ascending.
func Indices[T any](l []T, holds func(i int, x T) bool) []int {
	var indices []int
	for i, x := range l {
		if holds(i, x) {
			indices = append(indices, i)
		}
	}
	return indices
}
