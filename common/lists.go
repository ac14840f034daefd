package common

// Mapped returns a list of what becomes of each element of another one.
func Mapped[A, B any](l []A, change func(A) B) []B {
	changed := make([]B, len(l))
	for i, x := range l {
		changed[i] = change(x)
	}
	return changed
}
