package timing

import (
	"iter"
	"slices"

	"genlock/api"
	"genlock/common"
)

// rest is the edge of an arc that is none of a net's edges, but a rest.
const rest = -1

// Arc is an edge, forward or backward, or a rest.
type Arc struct {
	Edge int
	Back bool
	Node int
}

// placed is an arc with its ends, where it begins and where it ends, and its bound.
type placed struct {
	Arc
	ends  [2]int
	bound int
}

// visit is a node of a search: the arc by which it was reached last, and the sum of the bounds up to it. Only the node with which the search begins has been reached by no arc.
type visit struct {
	placed
	time    int
	reached bool
}

// errorIn returns the error of an arc of a net, or OK.
func (a Arc) errorIn(n Net) api.Errno {
	if a.Edge == rest {
		return common.First(n.nodeError(a.Node), common.ErrorIf(a.Back, api.ErrForm))
	}
	return common.First(n.edgeError(a.Edge), common.ErrorIf(a.Node != 0, api.ErrForm))
}

// placed returns an arc of the net with its ends and its bound.
func (n Net) placed(a Arc) placed {
	if a.Edge == rest {
		return placed{Arc: a, ends: [2]int{reference, a.Node}}
	}
	e := n.Edges[a.Edge]
	if a.Back {
		return placed{Arc: a, ends: [2]int{e.To, e.From}, bound: -e.High}
	}
	return placed{Arc: a, ends: [2]int{e.From, e.To}, bound: e.Low}
}

// arcs returns all arcs of the net.
func (n Net) arcs() []placed {
	var l []placed
	for edge := range n.Edges {
		l = append(l, n.placed(Arc{Edge: edge}), n.placed(Arc{Edge: edge, Back: true}))
	}
	for node := range n.Nodes {
		l = append(l, n.placed(Arc{Edge: rest, Node: node}))
	}
	return l
}

// leaving returns the arcs of the net that leave a node.
func (n Net) leaving(node int) iter.Seq[placed] {
	return func(yield func(placed) bool) {
		for _, a := range n.arcs() {
			if a.ends[0] == node && !yield(a) {
				return
			}
		}
	}
}

// search returns the visits of all nodes, with the greatest sums of bounds from a node on; or, as soon as it finds one, a loop whose sum is above 0.
func (n Net) search(start int) ([]visit, []Arc) {
	visits := make([]visit, len(n.Nodes))
	visits[start].reached = true
	var loop []Arc
	changed := true
search:
	for changed {
		changed = false
		for node := range n.Nodes {
			for a := range n.leaving(node) {
				if !isLater(visits, a) {
					continue
				}
				loop = closed(visits, start, a)
				if loop != nil {
					break search
				}
				visits[a.ends[1]] = visit{placed: a, time: visits[node].time + a.bound, reached: true}
				changed = true
			}
		}
	}
	return visits, loop
}

// isLater reports whether an arc reaches its end for the first time, or with a greater sum than before.
func isLater(visits []visit, a placed) bool {
	from, to := visits[a.ends[0]], visits[a.ends[1]]
	return from.reached && (!to.reached || from.time+a.bound > to.time)
}

// closed returns the loop that an arc closes, or nil: it closes one if its beginning was reached from its end. While no loop is closed, the arcs by which nodes were reached lead back to the start.
func closed(visits []visit, start int, last placed) []Arc {
	loop := []Arc{last.Arc}
	for at := last.ends[0]; at != last.ends[1]; at = visits[at].ends[0] {
		if at == start {
			return nil
		}
		loop = append(loop, visits[at].Arc)
	}
	slices.Reverse(loop)
	return loop
}
