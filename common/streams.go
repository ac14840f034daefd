package common

import "iter"

// byteSize is how many bits a byte has.
const byteSize = 8

// AppendNumber returns a stream with the lowest bytes of a number behind it, the higher ones first.
func AppendNumber(s []byte, n, size int) []byte {
	for i := range size {
		s = append(s, byte(n>>(byteSize*(size-1-i))))
	}
	return s
}

// NumberOf returns the number with these bytes, the higher ones first.
func NumberOf(s []byte) int {
	n := 0
	for _, b := range s {
		n = n<<byteSize | int(b)
	}
	return n
}

// Parity returns the exclusive or of bytes.
func Parity(s []byte) byte {
	var parity byte
	for _, b := range s {
		parity ^= b
	}
	return parity
}

// Search returns what is found in a stream, from its beginning on, with the index at which it begins: where size bytes are read as a thing, the search goes on behind them, otherwise at the next index.
func Search[T any](s []byte, size int, read func(s []byte) (T, bool)) iter.Seq2[int, T] {
	return func(yield func(int, T) bool) {
		for at := 0; at+size <= len(s); {
			x, found := read(s[at : at+size])
			if !found {
				at++
				continue
			}
			if !yield(at, x) {
				return
			}
			at += size
		}
	}
}
