// Package common has what the layers share and no chapter lists: first errors, changed lists, levels, quotients, bytes of streams, and lines of words. It is no layer, and depends on package api alone.
package common

import (
	"genlock/api"
)

// First returns the first error of some, or OK.
func First(l ...api.Errno) api.Errno {
	for _, e := range l {
		if e != api.OK {
			return e
		}
	}
	return api.OK
}

// FirstOf returns the first error of the elements of a list, or OK.
func FirstOf[T any](l []T, check func(T) api.Errno) api.Errno {
	for _, x := range l {
		if e := check(x); e != api.OK {
			return e
		}
	}
	return api.OK
}

// ErrorIf returns an error if something is wrong, otherwise OK.
func ErrorIf(wrong bool, e api.Errno) api.Errno {
	if wrong {
		return e
	}
	return api.OK
}

// SpanError returns ErrSpan if a span is empty, or not within n things, otherwise OK.
func SpanError(s api.Span, n int) api.Errno {
	return ErrorIf(s.From < 0 || s.From >= s.To || s.To > n, api.ErrSpan)
}

// Outside returns ErrRange if a number is not from low to high, otherwise OK.
func Outside(n, low, high int) api.Errno {
	return ErrorIf(n < low || n > high, api.ErrRange)
}
