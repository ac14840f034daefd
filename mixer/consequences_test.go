package mixer_test

import (
	"slices"
	"testing"

	"genlock/api"
	"genlock/mixer"
	"genlock/picture"
)

// P6.6: a mix lies between both pictures, is the first one where the share is 0, and the second one where it is 256.
func TestMixesLieBetween(t *testing.T) {
	d := dice(12)
	ends := 0
	for range 500 {
		width, height := 1+d.below(9), 1+d.below(9)
		most := []int{2, 100, 16384}[d.below(3)]
		a, b := d.picture(width, height, -most, most), d.picture(width, height, -most, most)
		key := d.key(width * height)
		p := must[picture.Picture](t)(mixer.Mixed(a, b, key))
		for i, x := range p.Samples {
			first, second := a.Samples[i], b.Samples[i]
			if x < min(first, second) || x > max(first, second) {
				t.Errorf("%v is the mix of %v and %v by %d", x, first, second, key[i])
			}
			if key[i] == 0 && x != first || key[i] == 256 && x != second {
				t.Errorf("%v is the mix of %v and %v by %d", x, first, second, key[i])
			}
			if key[i]%256 == 0 {
				ends++
			}
		}
	}
	if ends < 500 {
		t.Errorf("only %d", ends)
	}
}

// P6.6: a picture that is premultiplied is a premultiplied fill, if its levels are from 0 on, and over black it is itself; over any picture with levels from 0 on it is a picture.
func TestPremultipliedIsAFill(t *testing.T) {
	d := dice(13)
	for range 500 {
		width, height := 1+d.below(9), 1+d.below(9)
		p, key := named("f", d.picture(width, height, 0, 16384)), d.key(width*height)
		fill := must[picture.Picture](t)(mixer.Premultiplied(p, key))
		want(t, results(p, key), results(mixer.CheckFill(fill, key)), api.OK)
		want(t, results(p, key), results(mixer.Over(fill, filled(width, height, 0), key)), fill, api.OK)
		other := d.picture(width, height, -16384, 16384)
		negative := must[picture.Picture](t)(mixer.Premultiplied(other, key))
		want(t, results(other, key), results(mixer.Over(negative, filled(width, height, 0), key)), negative, api.OK)
		over, e := mixer.Over(fill, d.picture(width, height, 0, 16384), key)
		want(t, results(p, key), results(picture.CheckPicture(over), e), api.OK, api.OK)
		edge, e := mixer.Over(must[picture.Picture](t)(mixer.Premultiplied(filled(width, height, 16384), key)), filled(width, height, 16384), key)
		want(t, key, results(edge, e), filled(width, height, 16384), api.OK)
	}
}

// cutUp returns places from 0 to n at which a side is cut.
func (d *dice) cutUp(n int) []int {
	places := []int{0, n}
	for range d.below(4) {
		places = append(places, d.below(n+1))
	}
	slices.Sort(places)
	return slices.Compact(places)
}

// P6.6 and P6: a tree that is composed tile by tile is the tree's picture.
func TestTilesAreThePicture(t *testing.T) {
	d := dice(14)
	for range 200 {
		l, _ := d.pictures(1+d.below(4), 1+d.below(12), 1+d.below(12))
		nodes := d.tree(1+d.below(16), len(l))
		columns, rows := d.cutUp(l[0].Width), d.cutUp(l[0].Height)
		var whole picture.Picture
		for i := range len(rows) - 1 {
			var strip picture.Picture
			for j := range len(columns) - 1 {
				across, down := api.Span{From: columns[j], To: columns[j+1]}, api.Span{From: rows[i], To: rows[i+1]}
				tile := must[picture.Picture](t)(mixer.Tile(nodes, l, across, down))
				if j == 0 {
					strip = tile
				} else {
					strip = must[picture.Picture](t)(picture.Beside(strip, tile))
				}
			}
			if i == 0 {
				whole = strip
			} else {
				whole = must[picture.Picture](t)(picture.Above(whole, strip))
			}
		}
		want(t, results(nodes, l, columns, rows), results(mixer.Composed(nodes, l)), whole, api.OK)
	}
}

// P6.6: the pruned tree has the tree's picture, and needs all of its nodes.
func TestPrunedTreesHaveThePicture(t *testing.T) {
	d := dice(15)
	shorter := 0
	for range 500 {
		l, _ := d.pictures(1+d.below(4), 1+d.below(6), 1+d.below(6))
		nodes := d.tree(1+d.below(16), len(l))
		pruned := must[[]mixer.Node](t)(mixer.Pruned(nodes))
		want(t, results(nodes, l), results(mixer.Composed(pruned, l)), must[picture.Picture](t)(mixer.Composed(nodes, l)), api.OK)
		want(t, nodes, results(mixer.Pruned(pruned)), pruned, api.OK)
		if len(pruned) < len(nodes) {
			shorter++
		}
	}
	if shorter < 200 {
		t.Errorf("only %d", shorter)
	}
}

// P6.6 and P6: a tree that is cut has the tree's picture, bank by bank, and joined again.
func TestBanksHaveThePicture(t *testing.T) {
	d := dice(16)
	joined, passed := 0, 0
	for range 1000 {
		l, _ := d.pictures(1+d.below(7), 1+d.below(6), 1+d.below(6))
		nodes := d.tree(2+d.below(10), len(l))
		at, number := d.below(len(nodes)-1), len(l)+d.below(8-len(l))
		first, second, e := mixer.Cut(nodes, at, number)
		want(t, results(nodes, at, number), results(e), api.OK)
		whole := must[picture.Picture](t)(mixer.Composed(nodes, l))
		bank := must[picture.Picture](t)(mixer.Composed(first, l))
		want(t, results(nodes, at, l), results(bank), must[picture.Picture](t)(mixer.Composed(nodes[:at+1], l)))
		all := slices.Clone(l)
		for len(all) <= number {
			all = append(all, bank)
		}
		want(t, results(nodes, at, number, l), results(mixer.Composed(second, all)), whole, api.OK)
		if !slices.Contains(must[[]int](t)(mixer.Sources(second)), number) {
			passed++
			want(t, results(nodes, at, number), results(mixer.Joined(first, second, number)), []mixer.Node{}, api.ErrNone)
			continue
		}
		again, e := mixer.Joined(first, second, number)
		if e == api.ErrMany {
			continue
		}
		joined++
		want(t, results(nodes, at, number, l), results(mixer.Composed(again, l)), whole, api.OK)
		want(t, again, results(mixer.CheckTree(again), e), api.OK, api.OK)
	}
	if joined < 300 || passed < 100 {
		t.Errorf("only %d and %d", joined, passed)
	}
}

// P6.5 and P6: two trees that are joined have the picture of the second one for which the first one's picture is the source.
func TestJoinedTreesHaveThePicture(t *testing.T) {
	d := dice(17)
	joined := 0
	for range 1000 {
		l, _ := d.pictures(8, 1+d.below(6), 1+d.below(6))
		a, b, number := d.tree(1+d.below(8), 8), d.tree(1+d.below(8), 3), d.below(3)
		both, e := mixer.Joined(a, b, number)
		if e != api.OK {
			want(t, results(a, b, number), results(e), api.ErrNone)
			continue
		}
		joined++
		inner := slices.Clone(l)
		inner[number] = must[picture.Picture](t)(mixer.Composed(a, l))
		want(t, results(a, b, number), results(mixer.Composed(both, l)), named(l[0].Name, must[picture.Picture](t)(mixer.Composed(b, inner))), api.OK)
	}
	if joined < 200 {
		t.Errorf("only %d", joined)
	}
}

// P6.6 and P6: no level of a node is outside of its range.
func TestLevelsAreWithinTheRanges(t *testing.T) {
	d := dice(18)
	for range 300 {
		l, sources := d.pictures(1+d.below(8), 1+d.below(6), 1+d.below(6))
		nodes := d.tree(1+d.below(16), len(l))
		ranges := must[[]api.Interval](t)(mixer.Ranges(nodes, sources))
		for i, r := range ranges {
			p := must[picture.Picture](t)(mixer.Composed(nodes[:i+1], l))
			for _, level := range levelsOf(p) {
				if level < r.Low || level > r.High {
					t.Errorf("%+v: the node %d has the level %d", nodes, i, level)
				}
			}
		}
		want(t, nodes, results(len(ranges)), len(nodes))
	}
}

// P6.6: a wipe that is opened further covers no less, and no more than its border tells.
func TestWipesThatAreOpened(t *testing.T) {
	d := dice(19)
	more := 0
	for range 1000 {
		w := d.wipe()
		by := d.between(0, min(100000, 100000-w.At, 50))
		width, height := 1+d.below(9), 1+d.below(9)
		wider := w
		wider.At += by
		key, opened := must[[]int](t)(mixer.Wiped(w, width, height)), must[[]int](t)(mixer.Wiped(wider, width, height))
		border := must[[]int](t)(mixer.Border(w, by, width, height))
		want(t, results(w, by), results(mixer.CheckKey(key), mixer.CheckKey(opened), mixer.CheckKey(border)), api.OK, api.OK, api.OK)
		for i := range key {
			if opened[i] < key[i] || opened[i] != key[i]+border[i] {
				t.Errorf("%+v by %d: %v, %v, %v", w, by, key, opened, border)
			}
			if opened[i] > key[i] {
				more++
			}
		}
	}
	if more < 1000 {
		t.Errorf("only %d", more)
	}
}

// P6.1 and P6.6: keys are turned and chosen as the shares of their samples are.
func TestKeysThatAreTurned(t *testing.T) {
	d := dice(20)
	for range 200 {
		n := 1 + d.below(100)
		a, b := d.key(n), d.key(n)
		inverted := func(key []int) []int { return must[[]int](t)(mixer.Inverted(key)) }
		want(t, a, results(inverted(inverted(a))), a)
		lesser := must[[]int](t)(mixer.Lesser(a, b))
		want(t, results(a, b), results(mixer.Greater(inverted(a), inverted(b))), inverted(lesser), api.OK)
		want(t, results(a, b), results(mixer.Lesser(a, lesser)), lesser, api.OK)
		p, q := d.picture(n%64+1, 1, -16384, 16384), d.picture(n%64+1, 1, -16384, 16384)
		key := d.key(n%64 + 1)
		// no spill is left where the key is 0, and all of the level where it is Full
		clean := must[picture.Picture](t)(mixer.Unspilled(p, key))
		for i, share := range key {
			if share == 0 && clean.Samples[i] != 0 || share == 256 && clean.Samples[i] != p.Samples[i] {
				t.Errorf("%v by %d: %v", p.Samples[i], share, clean.Samples[i])
			}
		}
		want(t, key, results(mixer.Mixed(p, p, key)), p, api.OK)
		want(t, key, results(mixer.Mixed(p, q, make([]int, len(key)))), p, api.OK)
	}
}

// P6.6: trees are parsed as they were printed.
func TestTextsComeBack(t *testing.T) {
	d := dice(21)
	for range 500 {
		nodes := d.tree(1+d.below(16), 8)
		s := must[string](t)(mixer.Print(nodes))
		want(t, s, results(mixer.Parse(s)), nodes, 0, api.OK)
	}
}
