package mixer_test

import (
	"math"
	"slices"
	"strconv"
	"strings"
	"testing"

	"genlock/api"
	"genlock/mixer"
	"genlock/picture"
)

// wrongNodes are nodes that are wrong behind two sources, with their errors.
func wrongNodes() []given[string] {
	l := []given[string]{
		{"", api.ErrKind},
		{"sources", api.ErrKind},
		{"Source", api.ErrKind},
		{"fade A=9 Number=9", api.ErrKind},
		{"half", api.ErrKind},
		// what is not used
		{"source 9 A=-1 Gain=1", api.ErrForm},
		{"mix 9 9 999 C=1", api.ErrForm},
		{"wipe 9 9 nothing 0 0 0 0 Number=1", api.ErrForm},
		{"key 9 9 9 0 0 Soft=1", api.ErrForm},
		// inputs before all else that is used
		{"mix 2 0 999", api.ErrUnknown},
		{"mix 0 2 -1", api.ErrUnknown},
		{"wipe 2 0 nothing 0 0 0 0", api.ErrUnknown},
		{"wipe 0 -1 nothing 0 0 0 0", api.ErrUnknown},
		{"key 0 0 2 99999 0", api.ErrUnknown},
		{"key 2 0 0 99999 0", api.ErrUnknown},
		{"key 0 2 0 99999 0", api.ErrUnknown},
	}
	unused := map[string]string{
		"source 1":               "A B C Clip Gain Shape w.A w.B At Soft",
		"matte 1":                "A B C Clip Gain Shape w.A w.B At Soft",
		"mix 1 0 1":              "C Clip Gain Shape w.A w.B At Soft",
		"wipe 1 0 half 1 1 1 1":  "C Number Clip Gain",
		"wipe 0 1 half 0 0 0 0":  "C Number Clip Gain",
		"key 1 0 1 1 1":          "Number Shape w.A w.B At Soft",
		"key 0 0 0 0 1":          "Number Shape w.A w.B At Soft",
		"source 0":               "A B C Clip Gain Shape w.A w.B At Soft",
		"matte 0":                "A B C Clip Gain Shape w.A w.B At Soft",
		"mix 0 0 0":              "C Clip Gain Shape w.A w.B At Soft",
		"wipe 0 0 box 0 0 0 0":   "C Number Clip Gain",
		"key 0 1 0 -16384 4096":  "Number Shape w.A w.B At Soft",
		"wipe 1 1 diamond 1 1 1": "C Number Clip Gain",
	}
	for line, names := range unused {
		l = append(l, given[string]{line, api.OK})
		for _, name := range strings.Fields(names) {
			values := []string{"1", "-1", "2", strconv.Itoa(math.MaxInt)}
			if name == "Shape" {
				values = []string{"half", "x"}
			}
			for _, value := range values {
				l = append(l, given[string]{line + " " + name + "=" + value, api.ErrForm})
			}
		}
	}
	for line, names := range map[string]string{"mix": "A B", "wipe Shape=half": "A B", "key Gain=1": "A B C"} {
		for _, name := range strings.Fields(names) {
			for _, n := range numbers(0, 1, api.ErrUnknown) {
				l = append(l, given[string]{line + " " + name + "=" + strconv.Itoa(n.v), n.e})
			}
		}
	}
	for line, n := range map[string][2]int{"source": {0, 7}, "matte": {-16384, 16384}, "mix": {0, 256}} {
		for _, n := range numbers(n[0], n[1], api.ErrRange) {
			l = append(l, given[string]{line + " Number=" + strconv.Itoa(n.v), n.e})
		}
	}
	return l
}

// trees are trees with their errors.
func trees() []given[[]mixer.Node] {
	two := tree("source 1;source 0")
	l := []given[[]mixer.Node]{
		{tree(exampleT), api.OK},
		{tree(fullTree), api.OK},
		{tree("source 7"), api.OK},
		{tree("matte 0"), api.OK},
		{tree("matte 0;mix 0 0 0"), api.OK},
		{nil, api.ErrEmpty},
		{slices.Repeat(tree("matte 1"), 16), api.OK},
		{slices.Repeat(tree("matte 1"), 17), api.ErrMany},
		{make([]mixer.Node, 17), api.ErrMany},
		{make([]mixer.Node, 1), api.ErrKind},
		{tree("mix 0 0 0"), api.ErrUnknown},
		{tree("wipe 0 0 half 0 0 0 0"), api.ErrUnknown},
		{tree("key 0 0 0 0 1"), api.ErrUnknown},
		{tree("source 8;fade"), api.ErrRange},
		{tree("fade;source 8"), api.ErrKind},
		{tree("matte 0;mix 1 0 0;matte 16385"), api.ErrUnknown},
		{tree("matte 0;mix 0 1 0;source 0"), api.ErrUnknown},
		{tree("matte 0;source 0;mix 0 3 0;source 0"), api.ErrUnknown},
		{append(tree(fullTree)[:15], tree("mix 0 15 0")...), api.ErrUnknown},
		{append(tree(fullTree)[:15], tree("mix 14 14 257")...), api.ErrRange},
	}
	add := func(n mixer.Node, e api.Errno) {
		l = append(l, given[[]mixer.Node]{append(slices.Clone(two), n), e})
		l = append(l, given[[]mixer.Node]{append(append(slices.Clone(two), n), tree("matte 0")...), e})
		if e != api.OK {
			l = append(l, given[[]mixer.Node]{append(append(slices.Clone(two), n), mixer.Node{}), e})
		}
	}
	for _, n := range wrongNodes() {
		add(tree(n.v)[0], n.e)
	}
	for _, s := range slopes() {
		add(mixer.Node{Kind: "key", A: 1, Slope: s.v}, s.e)
	}
	for _, w := range wipes() {
		add(mixer.Node{Kind: "wipe", B: 1, Wipe: w.v}, w.e)
	}
	return l
}

// P6.4
func TestCheckTree(t *testing.T) {
	for _, x := range trees() {
		want(t, x.v, results(mixer.CheckTree(x.v)), x.e)
	}
	d := dice(9)
	for range 300 {
		l := d.tree(1+d.below(16), 8)
		want(t, l, results(mixer.CheckTree(l)), api.OK)
	}
}

// P6.4
func TestSources(t *testing.T) {
	for s, numbers := range map[string][]int{
		exampleT:                         {0, 1},
		fullTree:                         {0, 3, 7},
		"matte 3":                        {},
		"source 5":                       {5},
		"source 5;matte 0":               {5},
		"source 7;source 0;source 7":     {0, 7},
		"matte 2;source 3;mix 0 0 1":     {3},
		"source 6;source 1;source 4":     {1, 4, 6},
		"source 2;source 2;mix 0 1 9":    {2},
		"source 0;mix 0 0 5;matte 7":     {0},
		"source 0;key 0 0 0 3 4;matte 5": {0},
	} {
		want(t, s, results(mixer.Sources(tree(s))), numbers, api.OK)
	}
	want(t, "all sources", results(mixer.Sources(tree("source 7;source 6;source 5;source 4;source 3;source 2;source 1;source 0"))), []int{0, 1, 2, 3, 4, 5, 6, 7}, api.OK)
	for _, x := range trees() {
		wantError(t, x.v, results(mixer.Sources(x.v)), x.e, []int(nil))
	}
}

// P6.4
func TestPruned(t *testing.T) {
	for s, pruned := range map[string]string{
		exampleT:                                      exampleT,
		"source 0":                                    "source 0",
		"source 0;source 1":                           "source 1",
		"source 0;source 1;mix 0 0 7":                 "source 0;mix 0 0 7",
		"source 0;source 1;mix 1 1 7":                 "source 1;mix 0 0 7",
		"source 0;source 1;matte 5;mix 2 0 7":         "source 0;matte 5;mix 1 0 7",
		"matte 1;matte 2;mix 1 0 3;mix 1 1 4":         "matte 2;mix 0 0 4",
		"matte 1;mix 0 0 3;matte 2;matte 3":           "matte 3",
		"matte 1;matte 2;matte 3;key 1 1 2 7 8":       "matte 2;matte 3;key 0 0 1 7 8",
		"matte 1;matte 2;matte 3;key 2 2 1 7 8":       "matte 2;matte 3;key 1 1 0 7 8",
		"matte 1;matte 2;wipe 1 1 box 1 2 3 4":        "matte 2;wipe 0 0 box 1 2 3 4",
		"matte 1;matte 1;mix 1 1 1":                   "matte 1;mix 0 0 1",
		"matte 1;mix 0 0 1;mix 1 1 2;mix 0 0 3":       "matte 1;mix 0 0 3",
		"matte 5;matte 0;matte 6;matte 0;mix 1 3 256": "matte 0;matte 0;mix 0 1 256",
		"source 0;source 1;mix 0 1 2;matte 9;wipe 3 2 half 1 2 3 4;mix 2 2 1;key 4 3 1 5 6": "source 0;source 1;mix 0 1 2;matte 9;wipe 3 2 half 1 2 3 4;key 4 3 1 5 6",
	} {
		want(t, s, results(mixer.Pruned(tree(s))), tree(pruned), api.OK)
	}
	for _, x := range trees() {
		wantError(t, x.v, results(mixer.Pruned(x.v)), x.e, []mixer.Node(nil))
	}
}

// P6.4: a pruned tree has just the nodes that are needed, in their order.
func TestPrunedOfAnyTrees(t *testing.T) {
	d := dice(10)
	for range 500 {
		l := d.tree(1+d.below(16), 8)
		var needed []int
		open := []int{len(l) - 1}
		for len(open) > 0 {
			at := open[0]
			open = open[1:]
			needed = append(needed, at)
			n := l[at]
			if n.Kind == "mix" || n.Kind == "wipe" || n.Kind == "key" {
				open = append(open, n.A, n.B)
			}
			if n.Kind == "key" {
				open = append(open, n.C)
			}
			slices.Sort(open)
			open = slices.Compact(open)
			slices.Reverse(open) // so that a node is opened when all that use it have been
		}
		slices.Reverse(needed)
		var wanted []mixer.Node
		for _, at := range needed {
			n := l[at]
			for _, input := range []*int{&n.A, &n.B, &n.C} {
				*input = max(0, slices.Index(needed, *input))
			}
			wanted = append(wanted, n)
		}
		want(t, l, results(mixer.Pruned(l)), wanted, api.OK)
	}
}

// P6.4
func TestComposed(t *testing.T) {
	p, q := pictureP(), pictureQ()
	for _, x := range []struct {
		s      string
		l      []picture.Picture
		levels []int
	}{
		{exampleT, []picture.Picture{p, q}, []int{128, 64}},
		{"source 0;source 1;matte 64;mix 0 1 128", []picture.Picture{p, q}, []int{128, 64}},
		{"source 1", []picture.Picture{p, q}, []int{0, 128}},
		{"source 0;source 1;mix 0 1 0", []picture.Picture{p, q}, []int{256, 0}},
		{"source 0;source 1;mix 0 1 256", []picture.Picture{p, q}, []int{0, 128}},
		{"source 0;source 1;mix 1 0 64", []picture.Picture{p, q}, []int{64, 96}},
		{"matte -5", []picture.Picture{p}, []int{-5, -5}},
		{"source 0;matte -7", []picture.Picture{p}, []int{-7, -7}},
		{"source 0;source 1;wipe 0 1 half 1 0 0 0", []picture.Picture{p, q}, []int{0, 0}},
		{"source 0;source 1;wipe 1 0 half 1 0 0 0", []picture.Picture{p, q}, []int{256, 128}},
		{"source 0;source 1;wipe 1 0 half 1 0 0 1", []picture.Picture{p, q}, []int{128, 128}},
		{"source 0;source 1;wipe 0 1 box 2 0 0 0", []picture.Picture{p, q}, []int{256, 128}},
		{"source 0;source 1;key 0 1 0 0 256", []picture.Picture{p, q}, []int{0, 0}},
		{"source 0;source 1;key 0 1 1 0 256", []picture.Picture{p, q}, []int{256, 64}},
		{"matte -63;matte 0;mix 0 1 128", []picture.Picture{p}, []int{-31, -31}},
		{"matte 63;matte 0;mix 0 1 128;mix 2 1 128", []picture.Picture{p}, []int{16, 16}}, // each mix is rounded
		{"source 0", []picture.Picture{with(p, 1, minus0), {Name: "z", Width: 2, Height: 1, Samples: []float32{1, 1}}}, []int{256, 0}},
	} {
		wanted := withLevels(x.l[0], x.levels...)
		want(t, x.s, results(mixer.Composed(tree(x.s), x.l)), wanted, api.OK)
		columns, rows := whole(x.l[0])
		want(t, x.s, results(mixer.Tile(tree(x.s), x.l, columns, rows)), wanted, api.OK)
	}
	columns := api.Span{From: 1, To: 2}
	want(t, "a tile", results(mixer.Tile(tree("source 0;source 1;wipe 0 1 half 1 0 0 0"), []picture.Picture{q, p}, columns, api.Span{To: 1})), named("q", row(128)), api.OK)
}

// P6.4
func TestAnyTrees(t *testing.T) {
	d := dice(11)
	for range 300 {
		l, _ := d.pictures(1+d.below(8), 1+d.below(9), 1+d.below(9))
		nodes := d.tree(1+d.below(16), len(l))
		columns, rows := whole(l[0])
		want(t, results(nodes, l), results(mixer.Composed(nodes, l)), pictureOf(nodes, l, columns, rows), api.OK)
		columns.From, rows.From = d.below(columns.To), d.below(rows.To)
		columns.To, rows.To = columns.From+1+d.below(columns.To-columns.From), rows.From+1+d.below(rows.To-rows.From)
		want(t, results(nodes, l, columns, rows), results(mixer.Tile(nodes, l, columns, rows)), pictureOf(nodes, l, columns, rows), api.OK)
	}
	l, _ := d.pictures(8, 64, 64)
	columns, rows := whole(l[0])
	want(t, "the greatest tree", results(mixer.Composed(tree(fullTree), l)), pictureOf(tree(fullTree), l, columns, rows), api.OK)
}

// lists are pictures for a tree with the sources 0 and 1, with their errors; those that have none are 3 columns wide and 2 rows high.
func lists() []given[[]picture.Picture] {
	right := made(3, 2, 1, 2, 3, 4, 5, 6)
	l := []given[[]picture.Picture]{
		{[]picture.Picture{right, named("q", right)}, api.OK},
		{slices.Repeat([]picture.Picture{right}, 8), api.OK},
		{nil, api.ErrEmpty},
		{slices.Repeat([]picture.Picture{right}, 9), api.ErrMany},
		{make([]picture.Picture, 9), api.ErrMany},
		{[]picture.Picture{right}, api.ErrUnknown},
		{[]picture.Picture{right, filled(3, 1, 0)}, api.ErrShape},
		{[]picture.Picture{right, filled(2, 3, 0)}, api.ErrShape},
		{[]picture.Picture{filled(2, 2, 0), right, right}, api.ErrShape},
		{[]picture.Picture{right, right, right, filled(4, 2, 0)}, api.ErrShape},
	}
	for _, p := range pictures() {
		if p.e != api.OK {
			l = append(l, given[[]picture.Picture]{[]picture.Picture{p.v}, p.e}, given[[]picture.Picture]{[]picture.Picture{right, p.v}, p.e})
			l = append(l, given[[]picture.Picture]{[]picture.Picture{right, right, p.v, {}}, p.e}, given[[]picture.Picture]{[]picture.Picture{right, filled(1, 1, 0), p.v}, p.e})
		}
	}
	return l
}

// spans are spans of n columns or rows with their errors.
func spans(n int) []given[api.Span] {
	return []given[api.Span]{
		{api.Span{From: 0, To: n}, api.OK}, {api.Span{From: n - 1, To: n}, api.OK}, {api.Span{From: 0, To: 1}, api.OK},
		{api.Span{}, api.ErrSpan}, {api.Span{From: 0, To: n + 1}, api.ErrSpan}, {api.Span{From: -1, To: 1}, api.ErrSpan}, {api.Span{From: 1, To: 1}, api.ErrSpan}, {api.Span{From: 1, To: 0}, api.ErrSpan}, {api.Span{From: n, To: n + 1}, api.ErrSpan}, {api.Span{From: math.MinInt, To: math.MaxInt}, api.ErrSpan}, {api.Span{From: math.MaxInt, To: math.MinInt}, api.ErrSpan},
	}
}

// P6.4: the errors of Composed and Tile.
func TestComposingErrors(t *testing.T) {
	for _, l := range lists() {
		wantError(t, l.v, results(mixer.Composed(tree(exampleT), l.v)), l.e, picture.Picture{})
		for _, columns := range spans(3) {
			for _, rows := range spans(2) {
				wantError(t, results(l.v, columns.v, rows.v), results(mixer.Tile(tree(exampleT), l.v, columns.v, rows.v)), firstError(l.e, columns.e, rows.e), picture.Picture{})
			}
		}
	}
	eight := slices.Repeat([]picture.Picture{filled(3, 2, 9)}, 8)
	for _, x := range trees() {
		wantError(t, x.v, results(mixer.Composed(x.v, eight)), x.e, picture.Picture{})
		wantError(t, x.v, results(mixer.Tile(x.v, eight, api.Span{To: 3}, api.Span{To: 2})), x.e, picture.Picture{})
		wantError(t, x.v, results(mixer.Composed(x.v, nil)), firstError(x.e, api.ErrEmpty), picture.Picture{})
		wantError(t, x.v, results(mixer.Tile(x.v, nil, api.Span{}, api.Span{})), firstError(x.e, api.ErrEmpty), picture.Picture{})
	}
	for number := 1; number < 8; number++ {
		s := "source " + strconv.Itoa(number)
		want(t, s, results(mixer.Composed(tree(s), eight[:number])), picture.Picture{}, api.ErrUnknown)
		want(t, s, results(mixer.Composed(tree(s), eight[:number+1])), eight[0], api.OK)
		want(t, s, results(mixer.Composed(tree(s+";matte 9"), eight[:number])), picture.Picture{}, api.ErrUnknown) // also of what it does not need
	}
	want(t, "a tree without sources still needs a picture", results(mixer.Composed(tree("matte 9"), nil)), picture.Picture{}, api.ErrEmpty)
}

// P6.4
func TestRanges(t *testing.T) {
	for _, x := range []struct {
		s               string
		sources, ranges []api.Interval
	}{
		{exampleT, []api.Interval{{Low: 0, High: 256}, {Low: 0, High: 128}}, []api.Interval{{Low: 0, High: 256}, {Low: 0, High: 128}, {Low: 64, High: 64}, {Low: 0, High: 256}, {Low: 0, High: 256}}},
		{"matte -9", nil, []api.Interval{{Low: -9, High: -9}}},
		{"matte 5;matte -5;mix 0 1 0", nil, []api.Interval{{Low: 5, High: 5}, {Low: -5, High: -5}, {Low: -5, High: 5}}},
		{"matte -5;matte 5;wipe 0 1 half 0 0 0 0", nil, []api.Interval{{Low: -5, High: -5}, {Low: 5, High: 5}, {Low: -5, High: 5}}},
		{"matte 1;matte 2;matte 3;key 1 0 2 0 1", nil, []api.Interval{{Low: 1, High: 1}, {Low: 2, High: 2}, {Low: 3, High: 3}, {Low: 1, High: 2}}},
		{"matte 1;matte 2;matte 3;key 2 1 0 0 1", nil, []api.Interval{{Low: 1, High: 1}, {Low: 2, High: 2}, {Low: 3, High: 3}, {Low: 2, High: 3}}},
		{"source 2;source 1;mix 0 1 0;mix 2 2 0", []api.Interval{{Low: 7, High: 7}, {Low: -16384, High: -1}, {Low: -3, High: 16384}, {Low: 8, High: 8}}, []api.Interval{{Low: -3, High: 16384}, {Low: -16384, High: -1}, {Low: -16384, High: 16384}, {Low: -16384, High: 16384}}},
		{"source 0;source 0;mix 1 0 9", []api.Interval{{Low: 3, High: 4}}, []api.Interval{{Low: 3, High: 4}, {Low: 3, High: 4}, {Low: 3, High: 4}}},
		{"source 0;source 1;mix 0 1 9", []api.Interval{{Low: 3, High: 9}, {Low: 4, High: 5}}, []api.Interval{{Low: 3, High: 9}, {Low: 4, High: 5}, {Low: 3, High: 9}}},
		{"source 0;source 1;mix 0 1 9;matte 2", []api.Interval{{Low: 4, High: 5}, {Low: 3, High: 9}}, []api.Interval{{Low: 4, High: 5}, {Low: 3, High: 9}, {Low: 3, High: 9}, {Low: 2, High: 2}}},
	} {
		want(t, x, results(mixer.Ranges(tree(x.s), x.sources)), x.ranges, api.OK)
	}
}

// P6.4: the errors of Ranges.
func TestRangesErrors(t *testing.T) {
	right := api.Interval{Low: -1, High: 1}
	for _, x := range []given[[]api.Interval]{
		{[]api.Interval{right, right}, api.OK},
		{slices.Repeat([]api.Interval{right}, 8), api.OK},
		{[]api.Interval{{Low: -16384, High: -16384}, {Low: 16384, High: 16384}, {Low: -16384, High: 16384}}, api.OK},
		{nil, api.ErrUnknown},
		{[]api.Interval{right}, api.ErrUnknown},
		{slices.Repeat([]api.Interval{right}, 9), api.ErrMany},
		{slices.Repeat([]api.Interval{{Low: 1}}, 9), api.ErrMany},
		{[]api.Interval{{Low: 1, High: 0}}, api.ErrOrder},
		{[]api.Interval{right, {Low: 16384, High: -16384}}, api.ErrOrder},
		{[]api.Interval{right, right, {Low: 1, High: 0}, {Low: 99999}}, api.ErrOrder},
		{[]api.Interval{right, right, {Low: 99999}, {Low: 1, High: 0}}, api.ErrRange},
		{[]api.Interval{{Low: -16385, High: 0}, right}, api.ErrRange},
		{[]api.Interval{{Low: 0, High: 16385}, right}, api.ErrRange},
		{[]api.Interval{{Low: 16385, High: 0}, right}, api.ErrRange},
		{[]api.Interval{{Low: 0, High: -16385}, right}, api.ErrRange},
		{[]api.Interval{{Low: math.MinInt, High: math.MaxInt}, right}, api.ErrRange},
		{[]api.Interval{right, right, {Low: math.MaxInt, High: math.MinInt}}, api.ErrRange},
	} {
		wantError(t, x.v, results(mixer.Ranges(tree(exampleT), x.v)), x.e, []api.Interval(nil))
	}
	eight := slices.Repeat([]api.Interval{right}, 8)
	for _, x := range trees() {
		wantError(t, x.v, results(mixer.Ranges(x.v, eight)), x.e, []api.Interval(nil))
		wantError(t, x.v, results(mixer.Ranges(x.v, []api.Interval{{Low: 1}})), firstError(x.e, api.ErrOrder), []api.Interval(nil))
	}
	want(t, "a source that is not needed", results(mixer.Ranges(tree("source 3;matte 1"), eight[:3])), []api.Interval{}, api.ErrUnknown)
}
