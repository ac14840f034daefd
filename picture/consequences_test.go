package picture_test

import (
	"testing"

	"genlock/api"
	"genlock/picture"
)

// must returns a result that has no error.
func must[T any](t *testing.T) func(x T, e api.Errno) T {
	return func(x T, e api.Errno) T {
		t.Helper()
		if e != api.OK {
			t.Fatalf("error %d", e)
		}
		return x
	}
}

// P1.7 and P2: parts, flips, transpositions and fields.
func TestPicturesComeBack(t *testing.T) {
	d, one, fields := dice(5), must[picture.Picture](t), must[[2]picture.Picture](t)
	for range 100 {
		p := d.picture(2+d.below(63), 2+d.below(63), 16384)
		x, y := 1+d.below(p.Width-1), 1+d.below(p.Height-1)
		tile := func(a, b, c, d int) picture.Picture {
			return one(picture.Cropped(p, api.Span{From: a, To: b}, api.Span{From: c, To: d}))
		}
		upper := one(picture.Beside(tile(0, x, 0, y), tile(x, p.Width, 0, y)))
		lower := one(picture.Beside(tile(0, x, y, p.Height), tile(x, p.Width, y, p.Height)))
		f := fields(picture.Fields(p))
		want(t, []any{p.Width, p.Height, x, y}, []any{
			one(picture.Above(upper, lower)),
			one(picture.Flipped(one(picture.Flipped(p)))),
			one(picture.Transposed(one(picture.Transposed(p)))),
			one(picture.Woven(f[0], f[1])),
		}, []any{p, p, p, p})
	}
}

// total returns the sum of the levels of a picture.
func total(p picture.Picture) int {
	n := 0
	for _, x := range p.Samples {
		n += int(16 * x)
	}
	return n
}

// P1.7: the order of sums, and the energy and the sum of parts.
func TestSumsOfParts(t *testing.T) {
	d, one, number := dice(6), must[picture.Picture](t), must[int](t)
	for range 100 {
		width, height := 2+d.below(20), 2+d.below(20)
		p, q, r := d.picture(width, height, 5000), d.picture(width, height, 5000), d.picture(width, height, 5000)
		pq := one(picture.Sum(p, q))
		want(t, "sums", []any{pq, one(picture.Sum(pq, r)), total(pq)}, []any{one(picture.Sum(q, p)), one(picture.Sum(p, one(picture.Sum(q, r)))), total(p) + total(q)})
		x := 1 + d.below(width-1)
		left := one(picture.Cropped(p, api.Span{To: x}, api.Span{To: height}))
		right := one(picture.Cropped(p, api.Span{From: x, To: width}, api.Span{To: height}))
		want(t, "parts", []any{number(picture.Energy(left)) + number(picture.Energy(right)), total(left) + total(right)}, []any{number(picture.Energy(p)), total(p)})
	}
}

// P1.7: transforms, texts and streams.
func TestTransformsAndTextsComeBack(t *testing.T) {
	d := dice(7)
	for range 1000 {
		l := [4]float32{d.sample(16384), d.sample(16384), d.sample(16384), d.sample(16384)}
		panel := must[[4]complex64](t)(picture.Four(l))
		want(t, l, []any{must[[4]float32](t)(picture.Unfour(panel))}, []any{l})
	}
	for range 100 {
		p := named("name_1", d.picture(1+d.below(64), 1+d.below(64), 16384))
		text := must[string](t)(picture.Print(p))
		s := must[[]byte](t)(picture.Pack(p))
		q, at, e := picture.Parse(text)
		r, f := picture.Unpack(s)
		want(t, "the picture", []any{q, at, e, r, f}, []any{p, 0, api.OK, p, api.OK})
		want(t, "the text and the stream", []any{must[string](t)(picture.Print(q)), must[[]byte](t)(picture.Pack(r))}, []any{text, s})
	}
}

// P1.7 and P2: where Sync stands only at the beginnings of frames, all frames that are not damaged are received.
func TestDamagedStreams(t *testing.T) {
	d := dice(8)
	other := func() byte { // any byte but Sync
		b := byte(d.below(255))
		if b == picture.Sync {
			return 255
		}
		return b
	}
	for range 200 {
		var s []byte
		var packets []picture.Packet
		skipped := 0
		for range 1 + d.below(20) {
			p := picture.Packet{Kind: int(other()), Counter: int(other())}
			for i := range p.Data {
				p.Data[i] = other()
			}
			f := frame(t, p)
			if f[13] == picture.Sync || f[14] == picture.Sync || f[15] == picture.Sync {
				continue
			}
			switch d.below(4) {
			case 0: // a wrong byte
				at := 1 + d.below(size-1)
				for old := f[at]; f[at] == old; {
					f[at] = other()
				}
				skipped += size
			case 1: // lost bytes at the end
				f = f[:1+d.below(size-1)]
				skipped += len(f)
			case 2: // strange bytes before it
				s = append(s, other(), other())
				skipped += 2
				packets = append(packets, p)
			default:
				packets = append(packets, p)
			}
			s = append(s, f...)
		}
		l, spans, e := picture.Received(s)
		for i, span := range spans {
			skipped -= span.To - span.From
			if span.From >= span.To || i > 0 && span.From <= spans[i-1].To {
				t.Errorf("spans %v", spans)
			}
		}
		want(t, "received", []any{l, e, skipped}, []any{packets, api.OK, 0})
	}
}
