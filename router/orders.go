package router

import (
	"genlock/api"
	"genlock/common"
)

// Order is a frame, and the salvo that takes effect from this frame on.
type Order struct {
	Frame int
	Takes []Take
}

// Run returns a router after orders, or the index of the order that is refused.
func Run(r Router, l []Order) (Router, int, api.Errno) {
	if e := common.First(CheckRouter(r), r.ordersError(l)); e != api.OK {
		return Router{}, 0, e
	}
	return r.run(l, api.MaxTime)
}

// Seen returns what a destination holds at a frame.
func Seen(r Router, l []Order, destination string, frame int) ([]string, api.Errno) {
	e := common.First(
		CheckRouter(r),
		r.ordersError(l),
		r.portError(destination, destinationRole),
		frameError(frame),
	)
	if e != api.OK {
		return nil, e
	}
	by, _, e := r.run(l, frame)
	if e != api.OK {
		return nil, e
	}
	return by.held(destination), api.OK
}

// ordersError returns the error of orders for the router, or OK.
func (r Router) ordersError(l []Order) api.Errno {
	if len(l) > MaxOrders {
		return api.ErrMany
	}
	before := -1
	return common.FirstOf(l, func(o Order) api.Errno {
		e := common.First(
			frameError(o.Frame),
			common.ErrorIf(o.Frame <= before, api.ErrOrder),
			r.salvoError(o.Takes),
		)
		before = o.Frame
		return e
	})
}

// run returns the sound router after the orders up to a frame, or the index of the order that is refused, and the error.
func (r Router) run(l []Order, frame int) (Router, int, api.Errno) {
	by := r.copied()
	for i, o := range l {
		if o.Frame > frame {
			break
		}
		next, _, e := by.after(o.Takes)
		if e != api.OK {
			return Router{}, i, e
		}
		by = next
	}
	return by, 0, api.OK
}

// frameError returns the error of a frame, or OK.
func frameError(frame int) api.Errno {
	return common.Outside(frame, 0, api.MaxTime)
}
