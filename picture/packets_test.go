package picture_test

import (
	"math"
	"slices"
	"testing"

	"genlock/api"
	"genlock/picture"
)

const size = picture.Size

// checked is the check of bytes, as the chapter defines it.
func checked(s []byte, factor, modulus int) int {
	x := 1
	for _, b := range s {
		x = (factor*x + int(b)) % modulus
	}
	return x
}

// framed puts a frame together of thirteen bytes, with its parity and its check changed by exclusive or.
func framed(head []byte, parity byte, check int) [size]byte {
	var f [size]byte
	copy(f[:], head)
	for _, b := range f[1:13] {
		f[13] ^= b
	}
	f[13] ^= parity
	sum := checked(f[:14], 251, 65521) ^ check
	f[14], f[15] = byte(sum>>8), byte(sum)
	return f
}

// frame returns the frame of a right packet.
func frame(t *testing.T, p picture.Packet) []byte {
	t.Helper()
	f, e := picture.Encode(p)
	want(t, "Encode", []any{e}, []any{api.OK})
	return f[:]
}

// P1.5
func TestEncodeAndDecode(t *testing.T) {
	want(t, "the chapter's check", []any{checked([]byte{1, 2}, 251, 65521)}, []any{63254})
	for _, x := range []struct {
		p picture.Packet
		f [size]byte
	}{
		{picture.Packet{Kind: 1, Counter: 2, Data: [10]byte{3}}, [size]byte{171, 1, 2, 3, 0, 0, 0, 0, 0, 0, 0, 0, 0, 0, 92, 211}},
		{picture.Packet{Kind: 255, Counter: 255, Data: [10]byte{255, 255, 255, 255, 255, 255, 255, 255, 255, 255}}, [size]byte{171, 255, 255, 255, 255, 255, 255, 255, 255, 255, 255, 255, 255, 0, 162, 19}},
		{picture.Packet{}, [size]byte{171, 0, 0, 0, 0, 0, 0, 0, 0, 0, 0, 0, 0, 0, 53, 59}},
		{picture.Packet{Kind: 7, Counter: 200, Data: [10]byte{1, 2, 3, 4, 5, 6, 7, 8, 9, 10}}, [size]byte{171, 7, 200, 1, 2, 3, 4, 5, 6, 7, 8, 9, 10, 196, 101, 211}},
	} {
		f, e := picture.Encode(x.p)
		p, g := picture.Decode(x.f)
		want(t, x.p, []any{f, e, p, g}, []any{x.f, api.OK, x.p, api.OK})
	}
	for _, p := range []picture.Packet{{Kind: 256}, {Kind: -1}, {Counter: 256}, {Counter: -1}, {Kind: 256, Counter: 256}, {Kind: math.MinInt}, {Counter: math.MaxInt}} {
		f, e := picture.Encode(p)
		want(t, p, []any{f, e}, []any{[size]byte{}, api.ErrRange})
	}
}

// P1.5: the first byte is asked before the parity and the check, and both of these are asked.
func TestDecodeOfWrongFrames(t *testing.T) {
	head := []byte{171, 9, 8, 7, 6, 5, 4, 3, 2, 1, 0, 171, 255}
	right := framed(head, 0, 0)
	p, e := picture.Decode(right)
	want(t, "Decode", []any{p, e}, []any{picture.Packet{Kind: 9, Counter: 8, Data: [10]byte{7, 6, 5, 4, 3, 2, 1, 0, 171, 255}}, api.OK})
	for at := range size {
		for bit := range 8 {
			wrong := right
			wrong[at] ^= 1 << bit
			wanted := api.ErrCheck
			if at == 0 {
				wanted = api.ErrForm
			}
			p, e := picture.Decode(wrong)
			want(t, []any{at, bit}, []any{p, e}, []any{picture.Packet{}, wanted})
		}
	}
	for _, f := range [][size]byte{framed(head, 1, 0), framed(head, 128, 0), framed(head, 0, 1), framed(head, 0, 256), framed(head, 0, 32768), framed(head, 5, 7)} {
		p, e := picture.Decode(f)
		want(t, f, []any{p, e}, []any{picture.Packet{}, api.ErrCheck})
	}
	for _, first := range []byte{0, 170, 172, 255} {
		head[0] = first
		p, e := picture.Decode(framed(head, 0, 0))
		q, f := picture.Decode(framed(head, 1, 1))
		want(t, first, []any{p, e, q, f}, []any{picture.Packet{}, api.ErrForm, picture.Packet{}, api.ErrForm})
	}
}

// P1.5
func TestReceived(t *testing.T) {
	a, b := picture.Packet{Kind: 1, Counter: 2, Data: [10]byte{3}}, picture.Packet{Kind: 4, Counter: 5, Data: [10]byte{171, 171, 171}}
	f, g := frame(t, a), frame(t, b)
	bad := slices.Clone(f)
	bad[6]++
	for i, x := range []struct {
		parts   [][]byte
		packets []picture.Packet
		skipped []api.Span
	}{
		{nil, nil, nil},
		{[][]byte{f}, []picture.Packet{a}, nil},
		{[][]byte{{7, 171}, f}, []picture.Packet{a}, []api.Span{{From: 0, To: 2}}},
		{[][]byte{f, g, f}, []picture.Packet{a, b, a}, nil},
		{[][]byte{f, f, f}, []picture.Packet{a, a, a}, nil},
		{[][]byte{f[:15]}, nil, []api.Span{{From: 0, To: 15}}},
		{[][]byte{f, {171}}, []picture.Packet{a}, []api.Span{{From: 16, To: 17}}},
		{[][]byte{f, g[:15]}, []picture.Packet{a}, []api.Span{{From: 16, To: 31}}},
		{[][]byte{g[:15], f}, []picture.Packet{a}, []api.Span{{From: 0, To: 15}}},
		{[][]byte{f[:1], f, f[1:]}, []picture.Packet{a}, []api.Span{{From: 0, To: 1}, {From: 17, To: 32}}},
		{[][]byte{bad, f, {171, 171}, g, bad[:3]}, []picture.Packet{a, b}, []api.Span{{From: 0, To: 16}, {From: 32, To: 34}, {From: 50, To: 53}}},
		{[][]byte{f, bad, {0}, bad, g}, []picture.Packet{a, b}, []api.Span{{From: 16, To: 49}}},
		{[][]byte{f, {1}, f, {2}, g, {3}}, []picture.Packet{a, a, b}, []api.Span{{From: 16, To: 17}, {From: 33, To: 34}, {From: 50, To: 51}}},
	} {
		l, s, e := picture.Received(slices.Concat(x.parts...))
		want(t, i, []any{l, s, e}, []any{x.packets, x.skipped, api.OK})
	}
	l, s, e := picture.Received([]byte{})
	want(t, "an empty list", []any{l, s, e}, []any{[]picture.Packet(nil), []api.Span(nil), api.OK})
}

// P1.5: what stands at the end is no frame, even if it would be one with further zeros.
func TestReceivedFramesThatEnd(t *testing.T) {
	for n, p := range map[int]picture.Packet{15: {Kind: 1, Counter: 149}, 14: {Kind: 65, Counter: 215}} {
		f := frame(t, p)
		want(t, "the end of the frame", []any{f[n:]}, []any{make([]byte, size-n)})
		l, spans, e := picture.Received(f[:n])
		want(t, []any{"the first bytes", n}, []any{l, spans, e}, []any{[]picture.Packet(nil), []api.Span{{From: 0, To: n}}, api.OK})
		l, spans, e = picture.Received(append(slices.Clone(f), f[:n]...))
		want(t, []any{"a frame and the first bytes", n}, []any{l, spans, e}, []any{[]picture.Packet{p}, []api.Span{{From: size, To: size + n}}, api.OK})
	}
}

// P1.5: of two frames that share bytes the first one is received; the second one only if the first one is wrong.
func TestReceivedFramesThatOverlap(t *testing.T) {
	outer := picture.Packet{Kind: 30, Counter: 40, Data: [10]byte{171, 50, 60, 1, 2, 3, 4, 5, 6, 7}}
	f := frame(t, outer)
	inner := picture.Packet{Kind: 50, Counter: 60}
	copy(inner.Data[:], f[6:])
	s := append(slices.Clone(f), frame(t, inner)[13:]...)
	l, spans, e := picture.Received(s)
	want(t, "the outer frame", []any{l, spans, e}, []any{[]picture.Packet{outer}, []api.Span{{From: 16, To: 19}}, api.OK})
	s[1]++
	l, spans, e = picture.Received(s)
	want(t, "the inner frame", []any{l, spans, e}, []any{[]picture.Packet{inner}, []api.Span{{From: 0, To: 3}}, api.OK})
}

// P1.5
func TestReceivedLimits(t *testing.T) {
	p := picture.Packet{Kind: 200, Counter: 100}
	s := slices.Repeat(frame(t, p), 1024)
	l, spans, e := picture.Received(s)
	want(t, "1024 frames", []any{l, spans, e}, []any{slices.Repeat([]picture.Packet{p}, 1024), []api.Span(nil), api.OK})
	for _, long := range [][]byte{append(s, 0), make([]byte, 16385), make([]byte, 100000)} {
		l, spans, e = picture.Received(long)
		want(t, len(long), []any{l, spans, e}, []any{[]picture.Packet(nil), []api.Span(nil), api.ErrLong})
	}
	l, spans, e = picture.Received(make([]byte, 16384))
	want(t, "16384 bytes", []any{l, spans, e}, []any{[]picture.Packet(nil), []api.Span{{From: 0, To: 16384}}, api.OK})
}

// counted returns packets of the kind 3 with counters, and packets of other kinds between them.
func counted(counters ...int) []picture.Packet {
	l := []picture.Packet{{Kind: 2, Counter: 77}}
	for i, c := range counters {
		l = append(l, picture.Packet{Kind: 3, Counter: c, Data: [10]byte{byte(i)}}, picture.Packet{Kind: 4, Counter: c + i&1})
	}
	return l
}

// from returns n counters from one on.
func from(c, n int) []int {
	l := make([]int, n)
	for i := range l {
		l[i] = (c + i) % 256
	}
	return l
}

// P1.5
func TestLost(t *testing.T) {
	for i, x := range []struct {
		l    []picture.Packet
		kind int
		lost []int
	}{
		{nil, 3, nil}, {counted(), 3, nil}, {counted(7), 3, nil}, {counted(7, 8, 9), 3, nil}, {counted(255, 0), 3, nil},
		{counted(1, 2, 5), 3, []int{3, 4}}, {counted(254, 1), 3, []int{255, 0}}, {counted(3, 5, 9), 3, []int{4, 6, 7, 8}},
		{counted(3, 6, 3, 6), 3, slices.Concat([]int{4, 5}, from(7, 252), []int{4, 5})},
		{counted(9, 9), 3, from(10, 255)}, {counted(0, 0, 2), 3, append(from(1, 255), 1)}, {counted(9, 8), 3, from(10, 254)},
		{counted(1, 5), 2, nil}, {counted(1, 5), 9, nil}, {[]picture.Packet{{}, {Counter: 3}}, 0, []int{1, 2}}, {[]picture.Packet{{Kind: 255, Counter: 253}, {Kind: 255, Counter: 255}}, 255, []int{254}},
		{[]picture.Packet{{Kind: 3, Counter: 4}, {Kind: 3, Counter: 6, Data: [10]byte{9: 1}}}, 3, []int{5}},
	} {
		lost, e := picture.Lost(x.l, x.kind)
		want(t, []any{"Lost", i}, []any{lost, e}, []any{x.lost, api.OK})
	}
	many := make([]picture.Packet, 1025)
	for i := range many {
		many[i].Counter = i % 256
	}
	lost, e := picture.Lost(many[:1024], 0)
	want(t, "Lost of 1024", []any{lost, e}, []any{[]int(nil), api.OK})
	wrong := []picture.Packet{{}, {Kind: 256}}
	for i, x := range []struct {
		l    []picture.Packet
		kind int
		e    api.Errno
	}{
		{many, 0, api.ErrMany}, {append(slices.Clone(many), wrong...), 0, api.ErrMany}, {many, 256, api.ErrMany},
		{wrong, 0, api.ErrRange}, {[]picture.Packet{{Kind: -1}}, 0, api.ErrRange}, {[]picture.Packet{{Counter: 256}}, 3, api.ErrRange}, {[]picture.Packet{{Counter: -1}}, 3, api.ErrRange}, {counted(math.MinInt, math.MaxInt), 3, api.ErrRange},
		{nil, 256, api.ErrRange}, {nil, -1, api.ErrRange}, {counted(0, 0, 3), 256, api.ErrRange}, {append(counted(0, 0, 3), wrong...), 3, api.ErrRange},
		{counted(0, 0, 3), 3, api.ErrMany}, {counted(0, 3, 3), 3, api.ErrMany}, {counted(5, 5, 5), 3, api.ErrMany}, {counted(slices.Repeat([]int{8}, 500)...), 3, api.ErrMany},
	} {
		lost, e := picture.Lost(x.l, x.kind)
		want(t, []any{"Lost with an error", i}, []any{lost, e}, []any{[]int(nil), x.e})
	}
}
