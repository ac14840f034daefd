package picture_test

import (
	"math"
	"slices"
	"testing"

	"genlock/api"
	"genlock/picture"
)

// summed returns a stream with its checksum.
func summed(s []byte) []byte {
	x := checked(s, 263, 16777183)
	return append(slices.Clone(s), byte(x>>24), byte(x>>16), byte(x>>8), byte(x))
}

// stream returns a stream of samples of any form, with its checksum.
func stream(name string, width, height byte, samples ...float32) []byte {
	s := append([]byte("PICT"), byte(len(name)))
	s = append(s, name...)
	s = append(s, width, height)
	for _, x := range samples {
		n := math.Float32bits(x)
		s = append(s, byte(n>>24), byte(n>>16), byte(n>>8), byte(n))
	}
	return summed(s)
}

// P1.6
func TestPackAndUnpack(t *testing.T) {
	for _, x := range []struct {
		p picture.Picture
		s []byte
	}{
		{named("q", filled(1, 1, -0.5)), []byte{80, 73, 67, 84, 1, 113, 1, 1, 191, 0, 0, 0, 0, 81, 95, 238}},
		{named("ab", made(2, 1, 1024, -0.0625)), []byte{80, 73, 67, 84, 2, 97, 98, 2, 1, 68, 128, 0, 0, 189, 128, 0, 0, 0, 200, 178, 208}},
		{chapter(), stream("p", 3, 2, 1, 2, 3, 4, 5, 6)},
		{filled(64, 64, 1023.9375), stream("p", 64, 64, slices.Repeat([]float32{1023.9375}, 4096)...)},
		{named("abcdefghijklmnopqrstuvwx", filled(1, 64, 0)), stream("abcdefghijklmnopqrstuvwx", 1, 64, make([]float32, 64)...)},
	} {
		s, e := picture.Pack(x.p)
		p, f := picture.Unpack(x.s)
		want(t, x.p.Name, []any{s, e, p, f}, []any{x.s, api.OK, x.p, api.OK})
	}
	s, e := picture.Pack(made(2, 1, minus0, 0))
	want(t, "Pack of -0", []any{s, e}, []any{stream("p", 2, 1, 0, 0), api.OK})
}

// P1.6: what is read first decides.
func TestUnpackErrors(t *testing.T) {
	long := func(n int) []byte { return append([]byte("PICT\x01p\x01\x01"), make([]byte, n-8)...) }
	whole := stream("name", 2, 2, 1, 2, 3, 4)
	for i, x := range []struct {
		s []byte
		e api.Errno
	}{
		{nil, api.ErrTorn}, {[]byte{}, api.ErrTorn}, {[]byte("P"), api.ErrTorn}, {[]byte("XYZ"), api.ErrTorn}, {[]byte("PICT"), api.ErrTorn}, {[]byte("PICT\xff"), api.ErrTorn},
		{[]byte("XICT"), api.ErrForm}, {[]byte("PXCT"), api.ErrForm}, {[]byte("PIXT"), api.ErrForm}, {[]byte("PICX"), api.ErrForm}, {[]byte("pict"), api.ErrForm}, {summed([]byte("PICK\x01p\x01\x01")), api.ErrForm},
		{long(400000), api.ErrShape}, {long(400001), api.ErrLong}, {make([]byte, 400001), api.ErrLong}, {make([]byte, 400000), api.ErrForm},
		{append(slices.Clone(whole), 0), api.ErrShape}, {append(slices.Clone(whole), whole...), api.ErrShape}, {append(stream("", 0, 0), 0), api.ErrShape}, {append(stream("9", 1, 1, nan), 0, 0, 0, 0), api.ErrShape},
		{stream("", 0, 0, 1), api.ErrShape}, {stream("p", 1, 1, 0, 0), api.ErrShape}, {stream("p", 1, 2, 0), api.ErrTorn}, {stream("p", 255, 255, 0), api.ErrTorn},
		{append([]byte("PICT\x00\x00\x00"), 1, 2, 3, 4), api.ErrCheck}, {append([]byte("PICT\x019\x01\x01"), 0, 0, 0, 0, 0, 0, 0, 0), api.ErrCheck},
		{stream("", 1, 1, 0), api.ErrName}, {stream("9", 1, 1, 0), api.ErrName}, {stream("p q", 1, 1, 0), api.ErrName}, {stream("abcdefghijklmnopqrstuvwxy", 1, 1, 0), api.ErrName}, {stream(string(make([]byte, 255)), 0, 0), api.ErrName}, {stream("", 0, 0), api.ErrName}, {stream("\xff", 1, 1, nan), api.ErrName},
		{stream("p", 0, 0), api.ErrRange}, {stream("p", 0, 1), api.ErrRange}, {stream("p", 1, 0), api.ErrRange}, {stream("p", 65, 1, make([]float32, 65)...), api.ErrRange}, {stream("p", 1, 65, make([]float32, 65)...), api.ErrRange}, {stream("p", 255, 255, make([]float32, 255*255)...), api.ErrRange}, {stream("p", 255, 0), api.ErrRange}, {stream("p", 65, 1, slices.Repeat([]float32{nan}, 65)...), api.ErrRange},
		{stream("p", 2, 1, 0, 0.01), api.ErrRange}, {stream("p", 2, 1, 1024.0625, nan), api.ErrRange}, {stream("p", 2, 1, nan, 2000), api.ErrForm}, {stream("p", 2, 1, 1, infinite), api.ErrForm}, {stream("p", 2, 1, 1, -infinite), api.ErrForm}, {stream("p", 1, 1, math.SmallestNonzeroFloat32), api.ErrRange},
		{stream("p", 1, 1, minus0), api.ErrForm}, {stream("p", 3, 1, 1, 0, minus0), api.ErrForm}, {stream("p", 2, 1, minus0, 0.01), api.ErrRange}, {stream("9", 1, 1, minus0), api.ErrName},
	} {
		p, e := picture.Unpack(x.s)
		want(t, []any{"Unpack", i}, []any{p, e}, []any{picture.Picture{}, x.e})
	}
	for n := range len(whole) {
		p, e := picture.Unpack(whole[:n])
		want(t, []any{"Unpack of the first bytes", n}, []any{p, e}, []any{picture.Picture{}, api.ErrTorn})
	}
	for at := len(whole) - 20; at < len(whole); at++ { // samples and checksum
		for bit := range 8 {
			wrong := slices.Clone(whole)
			wrong[at] ^= 1 << bit
			p, e := picture.Unpack(wrong)
			want(t, []any{"Unpack of a wrong bit", at, bit}, []any{p, e}, []any{picture.Picture{}, api.ErrCheck})
		}
	}
}
