package timing

import (
	"genlock/api"
	"genlock/common"
)

// Plan returns the least plan of a net.
func Plan(n Net) ([]int, api.Errno) {
	if e := CheckNet(n); e != api.OK {
		return nil, e
	}
	visits, loop := n.search(reference)
	if loop != nil {
		return nil, api.ErrInfeasible
	}
	return common.Mapped(visits, func(v visit) int { return v.time }), api.OK
}

// Loop returns a loop that proves that a net has no plan.
func Loop(n Net) ([]Arc, api.Errno) {
	if e := CheckNet(n); e != api.OK {
		return nil, e
	}
	_, loop := n.search(reference)
	if loop == nil {
		return nil, api.ErrNone
	}
	return loop, api.OK
}

// CheckLoop returns OK for a loop that proves that a net has no plan.
func CheckLoop(n Net, l []Arc) api.Errno {
	e := common.First(
		CheckNet(n),
		common.ErrorIf(len(l) == 0, api.ErrEmpty),
		common.ErrorIf(len(l) > MaxArcs, api.ErrMany),
		firstIn(n, l, Arc.errorIn),
	)
	if e != api.OK {
		return e
	}
	sum := 0
	before := n.placed(l[len(l)-1]).ends
	for _, a := range l {
		p := n.placed(a)
		if p.ends != [2]int{before[1], p.ends[1]} {
			return api.ErrOrder
		}
		sum += p.bound
		before = p.ends
	}
	return common.ErrorIf(sum <= 0, api.ErrProof)
}

// Window returns the window of a node.
func Window(n Net, node int) (api.Interval, api.Errno) {
	times, infeasible := Plan(n)
	if e := common.First(CheckNet(n), n.nodeError(node), infeasible); e != api.OK {
		return api.Interval{}, e
	}
	// Where the reference is later than the node by at least some time, the node is earlier by at least this time.
	visits, _ := n.search(node)
	if !visits[reference].reached {
		return api.Interval{}, api.ErrOpen
	}
	return api.Interval{Low: times[node], High: -visits[reference].time}, api.OK
}
