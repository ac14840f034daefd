package mixer

import (
	"slices"

	"genlock/api"
	"genlock/common"
)

// CheckTree returns the first error of a tree, or OK.
func CheckTree(t []Node) api.Errno {
	e := common.First(
		common.ErrorIf(len(t) == 0, api.ErrEmpty),
		common.ErrorIf(len(t) > MaxNodes, api.ErrMany),
	)
	if e != api.OK {
		return e
	}
	for at, n := range t {
		if e := n.errorAt(at); e != api.OK {
			return e
		}
	}
	return api.OK
}

// Sources returns the sources of a tree.
func Sources(t []Node) ([]int, api.Errno) {
	if e := CheckTree(t); e != api.OK {
		return nil, e
	}
	var numbers []int
	for number := range MaxPictures {
		if hasSource(t, number) {
			numbers = append(numbers, number)
		}
	}
	return numbers, api.OK
}

// Pruned returns the pruned tree.
func Pruned(t []Node) ([]Node, api.Errno) {
	if e := CheckTree(t); e != api.OK {
		return nil, e
	}
	return pruned(t), api.OK
}

// Cut returns both trees into which a tree is cut at a node.
func Cut(t []Node, node, number int) ([]Node, []Node, api.Errno) {
	e := common.First(
		CheckTree(t),
		common.ErrorIf(node < 0 || node >= len(t)-1, api.ErrUnknown),
		indexError(number),
		common.ErrorIf(hasSource(t, number), api.ErrTwice),
	)
	if e != api.OK {
		return nil, nil, e
	}
	rest := slices.Clone(t)
	rest[node] = sourceNode(number)
	return pruned(t[:node+1]), pruned(rest), api.OK
}

// Joined returns two trees, joined by a source's number.
func Joined(a, b []Node, number int) ([]Node, api.Errno) {
	e := common.First(
		CheckTree(a),
		CheckTree(b),
		indexError(number),
		common.ErrorIf(!hasSource(b, number), api.ErrNone),
	)
	if e != api.OK {
		return nil, e
	}
	l := joined(a, b, number)
	if len(l) > MaxNodes {
		return nil, api.ErrMany
	}
	return l, api.OK
}

// hasSource reports whether a tree has a source with a number.
func hasSource(t []Node, number int) bool {
	return slices.Contains(t, sourceNode(number))
}

// pruned returns the nodes that a sound tree needs.
func pruned(t []Node) []Node {
	needed := needs(t)
	places := make([]int, len(t))
	var l []Node
	for i, n := range t {
		if needed[i] {
			places[i] = len(l)
			l = append(l, n.moved(places))
		}
	}
	return l
}

// needs reports for each node of a sound tree whether it is needed.
func needs(t []Node) []bool {
	last := len(t) - 1
	needed := make([]bool, len(t))
	needed[last] = true
	for i := last; i >= 0; i-- {
		if !needed[i] {
			continue
		}
		for _, input := range t[i].used() {
			needed[input] = true
		}
	}
	return needed
}

// joined returns two sound trees, joined by a number of which the second one has a source.
func joined(a, b []Node, number int) []Node {
	l := slices.Clone(a)
	bank := sourceNode(number)
	if b[len(b)-1] == bank {
		return l
	}
	places := make([]int, len(b))
	for i, n := range b {
		if n == bank {
			places[i] = len(a) - 1
			continue
		}
		places[i] = len(l)
		l = append(l, n.moved(places))
	}
	return l
}
