package picture_test

import (
	"math"
	"slices"
	"testing"

	"genlock/api"
	"genlock/picture"
)

// P1: no function panics, and together with an error all other results are zero values.
func TestAllArguments(t *testing.T) {
	numbers := []int{math.MinInt, math.MinInt32, -1001, -1, 0, 1, 2, 3, 64, 65, 256, 1000, math.MaxInt32, math.MaxInt}
	pictures := []picture.Picture{chapter(), filled(64, 64, 1024), filled(1, 1, minus0), filled(1, 64, -1024), {Name: "p", Width: 2, Height: math.MaxInt}, {Name: "p", Width: math.MinInt, Height: math.MinInt}}
	for _, x := range wrongPictures {
		pictures = append(pictures, x.p)
	}
	for _, p := range pictures {
		results := []map[string][]any{oneArgument(p)}
		for _, a := range numbers {
			for _, b := range numbers {
				results = append(results, furtherArguments(p, a, b))
			}
		}
		for _, q := range pictures {
			results = append(results, twoArguments(p, q))
		}
		for _, all := range results {
			for name, r := range all {
				if r[2] != api.OK {
					want(t, name, r[:1], r[1:2])
				}
			}
		}
	}
	for _, a := range numbers {
		for _, b := range numbers {
			l, e := picture.Draw(a, b)
			lost, f := picture.Lost([]picture.Packet{{Kind: a, Counter: b}, {Kind: a, Counter: a}}, b)
			frame, g := picture.Encode(picture.Packet{Kind: a, Counter: b})
			if e != api.OK && len(l) > 0 || f != api.OK && len(lost) > 0 || g != api.OK && frame != [size]byte{} {
				t.Errorf("%d, %d: a result beside an error", a, b)
			}
			picture.CheckRatio(api.Ratio{Num: a, Den: b})
		}
	}
}

// The limits and the error numbers of the document's section "Terms".
func TestLimitsAndErrors(t *testing.T) {
	limits := []int{api.MaxNumber, api.MaxName, api.MaxValue, api.MaxPart, api.MaxSamples, api.MaxSide, api.MaxTime, api.MaxList, api.MaxExact, api.MaxEvents, api.MaxText, api.MaxLog, api.MaxStream}
	want(t, "limits", []any{limits}, []any{[]int{999999999, 24, 1024, 1048576, 4096, 64, 10000000, 256, 8, 1000, 4096, 1000000, 400000}})
	for n, e := range []api.Errno{api.OK, api.ErrForm, api.ErrShape, api.ErrRange, api.ErrLarge, api.ErrMany, api.ErrZero, api.ErrNone, api.ErrName, api.ErrTwice, api.ErrUnknown, api.ErrOrder, api.ErrEmpty, api.ErrKind, api.ErrSpan, api.ErrOverlap, api.ErrShort, api.ErrSingular, api.ErrInfeasible, api.ErrProof, api.ErrLimit, api.ErrRule, api.ErrState, api.ErrOver, api.ErrConflict, api.ErrSyntax, api.ErrLong, api.ErrCheck, api.ErrTorn, api.ErrLocked, api.ErrLegal, api.ErrHeld, api.ErrOpen, api.ErrCycle} {
		want(t, "errors", []any{int(e)}, []any{n})
	}
}

// P1: bytes without a form.
func TestAllBytes(t *testing.T) {
	d := dice(4)
	right, e := picture.Pack(chapter())
	want(t, "Pack", []any{e}, []any{api.OK})
	text := []byte("picture p 3 2\nrow 16 32 48\nrow 64 80 96\n")
	for range 3000 {
		s, words := slices.Clone(right), slices.Clone(text)
		for range 1 + d.below(4) {
			s[d.below(len(s))] = byte(d.below(256))
			words[d.below(len(words))] = " \nprow-019\xff"[d.below(11)]
		}
		s, words = s[:d.below(len(s)+1)], words[:d.below(len(words)+1)]
		p, e := picture.Unpack(s)
		q, at, f := picture.Parse(string(words))
		picture.IsName(string(s))
		picture.Received(s)
		picture.CheckSample(math.Float32frombits(uint32(d.below(1 << 32))))
		if (e == api.OK) != alike(picture.CheckPicture(p), api.OK) || (f == api.OK) != alike(picture.CheckPicture(q), api.OK) || f == api.OK && at != 0 {
			t.Errorf("%q and %q: got %v, %d and %v, %d, %d", s, words, p, e, q, at, f)
		}
	}
}

// Arguments are not changed, and results share no memory with them or with each other.
func TestMemory(t *testing.T) {
	for _, f := range []func(a, b picture.Picture) []picture.Picture{
		func(a, b picture.Picture) []picture.Picture {
			p, _ := picture.Cropped(a, api.Span{To: a.Width}, api.Span{To: a.Height})
			q, _ := picture.Cropped(a, api.Span{To: a.Width}, api.Span{To: 1})
			return []picture.Picture{p, q}
		},
		func(a, b picture.Picture) []picture.Picture {
			p, _ := picture.Beside(a, b)
			q, _ := picture.Above(a, b)
			return []picture.Picture{p, q}
		},
		func(a, b picture.Picture) []picture.Picture {
			p, _ := picture.Flipped(a)
			q, _ := picture.Transposed(a)
			return []picture.Picture{p, q}
		},
		func(a, b picture.Picture) []picture.Picture {
			p, _ := picture.Fields(a)
			q, _ := picture.Woven(a, b)
			return []picture.Picture{p[0], p[1], q}
		},
		func(a, b picture.Picture) []picture.Picture {
			p, _ := picture.Sum(a, b)
			q, _ := picture.Scaled(a, 1, 1)
			return []picture.Picture{p, q}
		},
	} {
		a, b := chapter(), filled(3, 2, 2)
		first, second := f(a, b), f(a, b)
		a.Samples[0], b.Samples[0] = 99, 99
		for i, p := range first {
			want(t, "a result after a change of the arguments", []any{p}, []any{second[i]})
			for j := range p.Samples {
				p.Samples[j] = 77
			}
			for _, q := range append(first[i+1:], second...) {
				if slices.Contains(q.Samples, 77) {
					t.Error("two results share memory")
				}
			}
		}
		want(t, "arguments", []any{a, b}, []any{made(3, 2, 99, 2, 3, 4, 5, 6), made(3, 2, 99, 2, 2, 2, 2, 2)})
	}
	p := filled(1, 1, minus0)
	picture.Pack(p)
	picture.Print(p)
	want(t, "the sign of a sample", []any{math.Signbit(float64(p.Samples[0]))}, []any{true})
}

// Streams and lists of packets are neither changed nor kept.
func TestMemoryOfStreams(t *testing.T) {
	s, _ := picture.Pack(chapter())
	before := slices.Clone(s)
	p, e := picture.Unpack(s)
	want(t, "Unpack", []any{s, e}, []any{before, api.OK})
	clear(s)
	want(t, "a picture after a change of its stream", []any{p}, []any{chapter()})
	again, _ := picture.Pack(chapter())
	want(t, "another stream", []any{again}, []any{before})
	frames := slices.Concat([]byte{1, 2}, frame(t, picture.Packet{Kind: 1}), []byte{3})
	before = slices.Clone(frames)
	l, spans, _ := picture.Received(frames)
	want(t, "Received", []any{frames}, []any{before})
	clear(frames)
	want(t, "packets after a change of their stream", []any{l, spans}, []any{[]picture.Packet{{Kind: 1}}, []api.Span{{From: 0, To: 2}, {From: 18, To: 19}}})
	packets := counted(1, 4, 9)
	picture.Lost(packets, 3)
	want(t, "Lost", []any{packets}, []any{counted(1, 4, 9)})
}
