package timing

import (
	"slices"

	"genlock/api"
	"genlock/common"
	"genlock/picture"
)

// reference is the index of the node whose time is 0.
const reference = 0

// Edge leads from a node to another one, with a least and a greatest delay.
type Edge struct {
	From int
	To   int
	Low  int
	High int
}

// Net is nodes, of which the first one is the reference, and edges.
type Net struct {
	Nodes []string
	Edges []Edge
}

// CheckNet returns the first error of a net, or OK.
func CheckNet(n Net) api.Errno {
	e := common.First(
		common.ErrorIf(len(n.Nodes) == 0, api.ErrEmpty),
		common.ErrorIf(len(n.Nodes) > MaxNodes, api.ErrMany),
	)
	if e != api.OK {
		return e
	}
	return common.First(
		namesError(n.Nodes),
		common.ErrorIf(len(n.Edges) > MaxEdges, api.ErrMany),
		firstIn(n, n.Edges, Edge.errorIn),
	)
}

// CheckPlan returns OK for a plan of a net.
func CheckPlan(n Net, times []int) api.Errno {
	e := common.First(
		CheckNet(n),
		common.ErrorIf(len(times) != len(n.Nodes), api.ErrShape),
		common.FirstOf(times, timeError),
	)
	if e != api.OK {
		return e
	}
	return common.First(
		common.ErrorIf(times[reference] != 0, api.ErrConflict),
		common.FirstOf(n.Edges, func(e Edge) api.Errno {
			setting := e.setting(times)
			return common.ErrorIf(setting < e.Low || setting > e.High, api.ErrConflict)
		}),
	)
}

// Settings returns the settings of a plan.
func Settings(n Net, times []int) ([]int, api.Errno) {
	if e := CheckPlan(n, times); e != api.OK {
		return nil, e
	}
	return common.Mapped(n.Edges, func(e Edge) int { return e.setting(times) }), api.OK
}

// Added returns a net with a further edge.
func Added(n Net, e Edge) (Net, api.Errno) {
	wrong := common.First(
		CheckNet(n),
		e.errorIn(n),
		common.ErrorIf(len(n.Edges) == MaxEdges, api.ErrMany),
	)
	if wrong != api.OK {
		return Net{}, wrong
	}
	more := n.copied()
	more.Edges = append(more.Edges, e)
	return more, api.OK
}

// Without returns a net without an edge.
func Without(n Net, edge int) (Net, api.Errno) {
	if e := common.First(CheckNet(n), n.edgeError(edge)); e != api.OK {
		return Net{}, e
	}
	fewer := n.copied()
	fewer.Edges = slices.Delete(fewer.Edges, edge, edge+1)
	return fewer, api.OK
}

// namesError returns the error of the first name of nodes with one, or OK.
func namesError(names []string) api.Errno {
	known := map[string]bool{}
	return common.FirstOf(names, func(name string) api.Errno {
		e := common.First(
			common.ErrorIf(!picture.IsName(name), api.ErrName),
			common.ErrorIf(known[name], api.ErrTwice),
		)
		known[name] = true
		return e
	})
}

// firstIn returns the first error that elements of a list have in a net, or OK.
func firstIn[T any](n Net, l []T, check func(T, Net) api.Errno) api.Errno {
	return common.FirstOf(l, func(x T) api.Errno { return check(x, n) })
}

// errorIn returns the error of an edge of a net, or OK.
func (e Edge) errorIn(n Net) api.Errno {
	return common.First(
		n.nodeError(e.From),
		n.nodeError(e.To),
		common.ErrorIf(e.From == e.To, api.ErrConflict),
		common.Outside(e.Low, 0, MaxDelay),
		common.Outside(e.High, 0, MaxDelay),
		common.ErrorIf(e.Low > e.High, api.ErrOrder),
	)
}

// setting returns the difference of the times at the ends of an edge.
func (e Edge) setting(times []int) int {
	return times[e.To] - times[e.From]
}

// nodeError returns the error of the index of a node, or OK.
func (n Net) nodeError(node int) api.Errno {
	return common.ErrorIf(node < 0 || node >= len(n.Nodes), api.ErrUnknown)
}

// edgeError returns the error of the index of an edge, or OK.
func (n Net) edgeError(edge int) api.Errno {
	return common.ErrorIf(edge < 0 || edge >= len(n.Edges), api.ErrUnknown)
}

// copied returns the net in new memory.
func (n Net) copied() Net {
	return Net{Nodes: slices.Clone(n.Nodes), Edges: slices.Clone(n.Edges)}
}
