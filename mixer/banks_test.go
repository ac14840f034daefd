package mixer_test

import (
	"slices"
	"testing"

	"genlock/api"
	"genlock/mixer"
)

// P6.5
func TestCut(t *testing.T) {
	for _, x := range []struct {
		s             string
		node, number  int
		first, second string
	}{
		{exampleT, 3, 2, "source 0;source 1;mix 0 1 128", "source 1;matte 64;source 2;key 2 1 0 0 256"},
		{exampleT, 0, 7, "source 0", "source 7;source 1;matte 64;mix 0 1 128;key 3 2 1 0 256"},
		{exampleT, 1, 2, "source 1", "source 0;source 2;matte 64;mix 0 1 128;key 3 2 1 0 256"},
		{exampleT, 2, 3, "matte 64", "source 0;source 1;source 3;mix 0 1 128;key 3 2 1 0 256"},
		{"matte 1;matte 2", 0, 0, "matte 1", "matte 2"},                                          // the node is not needed
		{"matte 1;matte 2;mix 0 0 5;mix 1 1 6", 2, 4, "matte 1;mix 0 0 5", "matte 2;mix 0 0 6"},  // the node is not needed
		{"matte 1;mix 0 0 5;mix 1 1 6", 1, 0, "matte 1;mix 0 0 5", "source 0;mix 0 0 6"},         // nothing but the node is needed
		{"matte 1;mix 0 0 5;mix 1 0 6", 1, 5, "matte 1;mix 0 0 5", "matte 1;source 5;mix 1 0 6"}, // both use the same node
		{"matte 1;mix 0 0 5;key 1 1 1 2 3", 1, 6, "matte 1;mix 0 0 5", "source 6;key 0 0 0 2 3"}, // all inputs are the node
		{"source 1;wipe 0 0 box 1 2 3 4;mix 0 1 2", 1, 0, "source 1;wipe 0 0 box 1 2 3 4", "source 1;source 0;mix 0 1 2"},
	} {
		want(t, x, results(mixer.Cut(tree(x.s), x.node, x.number)), tree(x.first), tree(x.second), api.OK)
	}
}

// P6.5: the errors of Cut.
func TestCutErrors(t *testing.T) {
	for _, x := range trees() {
		last := len(x.v) - 1
		for _, node := range append(numbers(0, last-1, api.ErrUnknown), given[int]{last, api.ErrUnknown}) {
			for _, number := range numbers(0, 7, api.ErrRange) {
				if last < 1 {
					node.e = api.ErrUnknown
				}
				e := firstError(x.e, node.e, number.e)
				if e == api.OK && slices.Contains(must[[]int](t)(mixer.Sources(x.v)), number.v) {
					e = api.ErrTwice
				}
				wantError(t, results(x.v, node.v, number.v), results(mixer.Cut(x.v, node.v, number.v)), e, []mixer.Node(nil), []mixer.Node(nil))
			}
		}
	}
	want(t, "the number of a source that is not needed", results(mixer.Cut(tree("source 3;matte 1;mix 1 1 1"), 1, 3)), []mixer.Node{}, []mixer.Node{}, api.ErrTwice)
	want(t, "the number of the source that is left", results(mixer.Cut(tree("source 3;mix 0 0 1"), 0, 3)), []mixer.Node{}, []mixer.Node{}, api.ErrTwice)
	want(t, "a number that is also a matte's", results(mixer.Cut(tree("matte 3;mix 0 0 3"), 0, 3)), tree("matte 3"), tree("source 3;mix 0 0 3"), api.OK)
}

// P6.5
func TestJoined(t *testing.T) {
	for _, x := range []struct {
		a, b   string
		number int
		joined string
	}{
		{"source 0;source 1;mix 0 1 128", "source 1;matte 64;source 2;key 2 1 0 0 256", 2, "source 0;source 1;mix 0 1 128;source 1;matte 64;key 2 4 3 0 256"},
		{"matte 1", "source 0;mix 0 0 7", 0, "matte 1;mix 0 0 7"},
		{"source 5;matte 1", "source 0;source 5;source 0;mix 0 2 7;mix 3 1 9", 0, "source 5;matte 1;source 5;mix 1 1 7;mix 3 2 9"}, // twice
		{"source 0", "source 0;matte 8;mix 0 1 7", 0, "source 0;matte 8;mix 0 1 7"},                                                // the first tree has such a source, too
		{"source 0;matte 2;mix 0 1 3", "matte 8;source 1;wipe 0 1 box 1 2 3 4", 1, "source 0;matte 2;mix 0 1 3;matte 8;wipe 3 2 box 1 2 3 4"},
		{"matte 1;matte 2", "source 7;matte 9", 7, "matte 1;matte 2;matte 9"},            // not needed
		{"matte 1;matte 2", "source 7", 7, "matte 1;matte 2"},                            // the last node is left out
		{"matte 1;matte 2", "matte 3;source 6;mix 0 1 5;source 7", 7, "matte 1;matte 2"}, // and all others with it
		{"matte 1;matte 2", "source 7;mix 0 0 5;source 7", 7, "matte 1;matte 2"},         // twice, and last
		{"matte 1;matte 2;mix 0 1 3", "matte 4;matte 5;source 3;key 0 1 2 6 7", 3, "matte 1;matte 2;mix 0 1 3;matte 4;matte 5;key 3 4 2 6 7"},
		{"matte 1;matte 2;mix 0 1 3", "matte 4;source 3;matte 5;key 2 1 0 6 7;mix 3 2 8", 3, "matte 1;matte 2;mix 0 1 3;matte 4;matte 5;key 4 2 3 6 7;mix 5 4 8"},
	} {
		want(t, x, results(mixer.Joined(tree(x.a), tree(x.b), x.number)), tree(x.joined), api.OK)
	}
}

// mattes returns a tree of n nodes, the first one of which is the source 0; the others are mattes.
func mattes(n int) []mixer.Node {
	return append(tree("source 0"), slices.Repeat(tree("matte 7"), n-1)...)
}

// P6.5: the errors of Joined.
func TestJoinedErrors(t *testing.T) {
	b := tree("source 7;source 0;mix 0 1 1")
	for _, x := range trees() {
		for _, number := range numbers(0, 7, api.ErrRange) {
			e := firstError(x.e, number.e)
			if e == api.OK && len(x.v)+2 > 16 {
				e = api.ErrMany
			}
			wantError(t, results(x.v, number.v), results(mixer.Joined(x.v, b, number.v)), e, []mixer.Node(nil))
			e = firstError(x.e, number.e)
			if e == api.OK && !slices.Contains(must[[]int](t)(mixer.Sources(x.v)), number.v) {
				e = api.ErrNone
			}
			wantError(t, results(x.v, number.v), results(mixer.Joined(tree("matte 0"), x.v, number.v)), e, []mixer.Node(nil))
		}
		wantError(t, x.v, results(mixer.Joined(x.v, nil, 9)), firstError(x.e, api.ErrEmpty), []mixer.Node(nil))
		wantError(t, x.v, results(mixer.Joined(nil, x.v, 9)), api.ErrEmpty, []mixer.Node(nil))
	}
	want(t, "no such source", results(mixer.Joined(tree("source 3"), tree("source 2;matte 3"), 3)), []mixer.Node{}, api.ErrNone)
	want(t, "no such source, and too many nodes", results(mixer.Joined(mattes(16), mattes(16), 1)), []mixer.Node{}, api.ErrNone)
	for size := 1; size <= 16; size++ {
		for other := 2; other <= 16; other++ {
			l, e := mixer.Joined(mattes(size), mattes(other), 0)
			if nodes := size + other - 1; nodes <= 16 {
				want(t, results(size, other), results(l, e), append(mattes(size), mattes(other)[1:]...), api.OK)
			} else {
				want(t, results(size, other), results(l, e), []mixer.Node{}, api.ErrMany)
			}
		}
	}
	want(t, "the first tree alone", results(mixer.Joined(mattes(16), append(mattes(15), tree("source 1")...), 1)), mattes(16), api.OK)
	want(t, "sources that are left out do not count", results(mixer.Joined(mattes(15), append(slices.Repeat(tree("source 1"), 15), tree("mix 3 7 9")...), 1)), append(mattes(15), tree("mix 14 14 9")...), api.OK)
}
