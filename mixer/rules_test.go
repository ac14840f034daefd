package mixer_test

import (
	"math"
	"slices"
	"strings"
	"testing"

	"genlock/api"
	"genlock/mixer"
	"genlock/picture"
)

// The limits of the chapter.
func TestLimits(t *testing.T) {
	want(t, "limits", results(mixer.Full, mixer.MaxLevel, mixer.MaxGain, mixer.MaxStep, mixer.MaxAt, mixer.MaxNodes, mixer.MaxPictures), 256, 16384, 4096, 100, 100000, 16, 8)
}

// clobber changes all elements of a list, and what follows them in its memory.
func clobber[T any](l []T, x T) {
	for i := range l {
		l[i] = x
	}
	_ = append(l, x)
}

// spare returns a list with free memory behind it.
func spare[T any](l []T) []T {
	return append(make([]T, 0, 40), l...)
}

// kept are arguments of all functions.
type kept struct {
	p, q     picture.Picture
	key, b   []int
	nodes    []mixer.Node
	second   []mixer.Node
	pictures []picture.Picture
	ranges   []api.Interval
}

// arguments returns new ones that have a result in all functions.
func arguments() kept {
	p, q := pictureP(), pictureQ()
	p.Samples, q.Samples = spare(p.Samples), spare(q.Samples)
	return kept{
		p: p, q: q, key: spare([]int{64, 128}), b: spare([]int{0, 256}),
		nodes:    spare(tree(exampleT)),
		second:   spare(tree("source 1;matte 64;source 2;key 2 1 0 0 256")),
		pictures: spare([]picture.Picture{p, q}),
		ranges:   spare([]api.Interval{{Low: 0, High: 256}, {Low: 0, High: 128}}),
	}
}

// all returns the lists of the results of all functions.
func all(t *testing.T, k kept) (levels map[string][]float32, keys map[string][]int, trees map[string][]mixer.Node, ranges []api.Interval) {
	t.Helper()
	levels, keys, trees = map[string][]float32{}, map[string][]int{}, map[string][]mixer.Node{}
	made := func(name string, f func() (picture.Picture, api.Errno)) {
		levels[name] = must[picture.Picture](t)(f()).Samples
	}
	key := func(name string, f func() ([]int, api.Errno)) {
		keys[name] = must[[]int](t)(f())
	}
	w := mixer.Wipe{Shape: "half", A: 1, At: 1}
	key("Linear", func() ([]int, api.Errno) { return mixer.Linear(k.p, mixer.Slope{Gain: 256}) })
	key("Chroma", func() ([]int, api.Errno) { return mixer.Chroma(k.p, k.q, [2]int{}, mixer.Slope{Gain: 256}) })
	key("Inverted", func() ([]int, api.Errno) { return mixer.Inverted(k.key) })
	key("Lesser", func() ([]int, api.Errno) { return mixer.Lesser(k.key, k.b) })
	key("Greater", func() ([]int, api.Errno) { return mixer.Greater(k.b, k.key) })
	key("Wiped", func() ([]int, api.Errno) { return mixer.Wiped(w, 2, 1) })
	key("Border", func() ([]int, api.Errno) { return mixer.Border(w, 1, 2, 1) })
	key("Sources", func() ([]int, api.Errno) { return mixer.Sources(k.nodes) })
	made("Unspilled", func() (picture.Picture, api.Errno) { return mixer.Unspilled(k.p, k.key) })
	made("Mixed", func() (picture.Picture, api.Errno) { return mixer.Mixed(k.p, k.q, make([]int, 2)) })
	made("Premultiplied", func() (picture.Picture, api.Errno) { return mixer.Premultiplied(k.p, []int{256, 256}) })
	made("Over", func() (picture.Picture, api.Errno) { return mixer.Over(k.p, k.q, k.key) })
	made("Composed", func() (picture.Picture, api.Errno) { return mixer.Composed(k.nodes[:1], k.pictures) })
	made("Tile", func() (picture.Picture, api.Errno) {
		return mixer.Tile(k.nodes, k.pictures, api.Span{To: 2}, api.Span{To: 1})
	})
	trees["Pruned"] = must[[]mixer.Node](t)(mixer.Pruned(k.nodes))
	trees["Joined"] = must[[]mixer.Node](t)(mixer.Joined(k.nodes, k.second, 2))
	trees["Joined alone"] = must[[]mixer.Node](t)(mixer.Joined(k.nodes, k.second[:3], 2))
	trees["Cut"], trees["the second one"], _ = mixer.Cut(k.nodes, 0, 3)
	trees["Parse"], _, _ = mixer.Parse(text(exampleT))
	ranges = must[[]api.Interval](t)(mixer.Ranges(k.nodes, k.ranges))
	return levels, keys, trees, ranges
}

// Arguments are neither changed nor kept, and results share no memory with them or with each other.
func TestMemory(t *testing.T) {
	k := arguments()
	first := results(all(t, k))
	for range 2 {
		levels, keys, trees, ranges := all(t, k)
		want(t, "results", results(levels, keys, trees, ranges), first...)
		if len(levels) != 6 || len(keys) != 8 || len(trees) != 6 {
			t.Errorf("%v, %v, %v", levels, keys, trees)
		}
		for name, l := range trees { // both trees of one call, too
			clobber(l, mixer.Node{Kind: name})
		}
		for name, l := range trees {
			if slices.ContainsFunc(l, func(n mixer.Node) bool { return n.Kind != name }) {
				t.Errorf("%s shares memory: %+v", name, l)
			}
		}
		for _, l := range levels {
			clobber(l, 77)
		}
		for _, l := range keys {
			clobber(l, 77)
		}
		clobber(ranges, api.Interval{Low: 77})
		want(t, "arguments", results(k), arguments())
		want(t, "behind them", results(k.p.Samples[:40][2:], k.key[:40][2:], k.nodes[:40][5:], k.second[:40][4:], k.ranges[:40][2:]), make([]float32, 38), make([]int, 38), make([]mixer.Node, 35), make([]mixer.Node, 36), make([]api.Interval, 38))
	}
	levels, keys, trees, ranges := all(t, k)
	clobber(k.p.Samples, 77)
	clobber(k.q.Samples, 77)
	clobber(k.key, 77)
	clobber(k.b, 77)
	clobber(k.nodes, mixer.Node{})
	clobber(k.second, mixer.Node{})
	clobber(k.ranges, api.Interval{Low: 77})
	want(t, "results after a change of the arguments", results(levels, keys, trees, ranges), results(all(t, arguments()))...)
}

// strange are numbers of all kinds.
func strange() []int {
	return []int{math.MinInt, math.MinInt + 1, -1 << 32, -16385, -1, 0, 1, 2, 3, 7, 8, 16, 64, 256, 4096, 16384, 100000, 1 << 32, 1 << 61, math.MaxInt - 1, math.MaxInt}
}

// any returns any list of nodes, well-formed or not.
func (d *dice) any() []mixer.Node {
	l := d.tree(1+d.below(5), 3)
	some := func() int { return strange()[d.below(len(strange()))] }
	for range d.below(3) {
		n := &l[d.below(len(l))]
		for range 1 + d.below(2) {
			*[]*int{&n.A, &n.B, &n.C, &n.Number, &n.Slope.Clip, &n.Slope.Gain, &n.Wipe.A, &n.Wipe.B, &n.Wipe.At, &n.Wipe.Soft}[d.below(10)] = some()
		}
		switch d.below(6) {
		case 0:
			n.Kind = []string{"", "source", "matte", "mix", "wipe", "key", "fade"}[d.below(7)]
		case 1:
			n.Wipe.Shape = []string{"", "half", "box", "diamond", "star"}[d.below(5)]
		}
	}
	return l
}

// P1: no function panics, for strange arguments.
func TestAllArguments(t *testing.T) {
	d := dice(22)
	some := func() int { return strange()[d.below(len(strange()))] }
	for range 20000 {
		p, q := pictures()[d.below(13)].v, pictures()[d.below(13)].v
		key, other := []int{some(), some(), some(), some(), some(), some()}[d.below(6):], d.key(6)
		s := mixer.Slope{Clip: some(), Gain: some()}
		w := mixer.Wipe{Shape: []string{"half", "box", "diamond", ""}[d.below(4)], A: some(), B: some(), At: some(), Soft: some()}
		mixer.CheckKey(key)
		mixer.Linear(p, s)
		mixer.Chroma(p, q, [2]int{some(), some()}, s)
		mixer.Unspilled(p, key)
		mixer.Inverted(key)
		mixer.Lesser(key, other)
		mixer.Greater(other, key)
		mixer.Wiped(w, some(), some())
		mixer.Border(w, some(), some(), some())
		mixer.Mixed(p, q, other)
		mixer.Premultiplied(p, key)
		mixer.CheckFill(p, other)
		mixer.Over(p, q, other)
	}
	for range 20000 {
		a, b := d.any(), d.any()
		l := []picture.Picture{pictures()[0].v, pictures()[1].v, pictures()[d.below(13)].v}[d.below(4)%3:]
		mixer.CheckTree(a)
		mixer.Sources(a)
		mixer.Pruned(a)
		mixer.Composed(a, l)
		mixer.Tile(a, l, api.Span{From: some(), To: some()}, api.Span{From: some(), To: some()})
		mixer.Ranges(a, []api.Interval{{Low: some(), High: some()}, {Low: some(), High: some()}}[d.below(2):])
		mixer.Cut(a, some(), some())
		mixer.Joined(a, b, some())
		mixer.Print(a)
	}
}

// The same arguments have the same results.
func TestSameResults(t *testing.T) {
	d := dice(23)
	for range 50 {
		nodes := d.tree(16, 8)
		l, sources := d.pictures(8, 3, 3)
		p, e := mixer.Composed(nodes, l)
		s, wrong := mixer.Print(nodes)
		ranges, none := mixer.Ranges(nodes, sources)
		for range 5 {
			want(t, nodes, results(mixer.Composed(nodes, l)), p, e)
			want(t, nodes, results(mixer.Print(nodes)), s, wrong)
			want(t, nodes, results(mixer.Ranges(nodes, sources)), ranges, none)
		}
	}
}

// P1: texts without a form.
func TestAllTexts(t *testing.T) {
	d := dice(24)
	for range 10000 {
		s := []byte(text(exampleT + ";wipe 4 3 box 1 2 3 4"))
		for range 1 + d.below(4) {
			s[d.below(len(s))] = " \nsourcekeymixwp0123-\xff"[d.below(22)]
		}
		s = s[:d.below(len(s)+1)]
		l, at, e := mixer.Parse(string(s))
		switch {
		case e == api.OK:
			want(t, string(s), results(at, mixer.CheckTree(l)), 0, api.OK)
			want(t, string(s), results(must[string](t)(mixer.Print(l))), string(s))
		case len(l) > 0 || at < 0 || at > 1+strings.Count(string(s), "\n"):
			t.Errorf("%q: got %v, %d, %d", s, l, at, e)
		}
	}
}
