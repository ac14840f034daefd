package router

import (
	"cmp"

	"genlock/api"
	"genlock/common"
	"genlock/picture"
)

// role is what a port is; 0 is the role of a name that no port has.
type role int

const (
	sourceRole role = iota + 1
	destinationRole
	tieRole
)

// The ends of a port: the matrix of which it is an output, and that of which it is an input.
const (
	gets  = 0
	leads = 1
)

// port is a source, a destination or a tie: both of its ends, which are one matrix unless it is a tie, and where it stands among all ports.
type port struct {
	name  string
	role  role
	ends  [2]int
	place int
}

// ports is ports by their names.
type ports map[string]port

func (s Source) port() port {
	return port{name: s.Name, role: sourceRole, ends: [2]int{s.Matrix, s.Matrix}}
}

func (d Destination) port() port {
	return port{name: d.Name, role: destinationRole, ends: [2]int{d.Matrix, d.Matrix}}
}

func (t Tie) port() port {
	return port{name: t.Name, role: tieRole, ends: [2]int{t.From, t.To}}
}

func (p port) isOutput() bool {
	return p.role == destinationRole || p.role == tieRole
}

func (p port) isInput() bool {
	return p.role == sourceRole || p.role == tieRole
}

// ports returns the ports of the router.
func (r Router) ports() ports {
	known := ports{}
	known.addAll(r, common.Mapped(r.Sources, Source.port), MaxSources)
	known.addAll(r, common.Mapped(r.Destinations, Destination.port), MaxDestinations)
	known.addAll(r, common.Mapped(r.Ties, Tie.port), MaxTies)
	return known
}

// addAll adds ports of the router, of which there are at most so many, up to the first one with an error, which it returns.
func (known ports) addAll(r Router, l []port, most int) api.Errno {
	if len(l) > most {
		return api.ErrMany
	}
	return common.FirstOf(l, func(p port) api.Errno {
		_, twice := known[p.name]
		p.place = len(known)
		known[p.name] = p
		return common.First(
			common.ErrorIf(!picture.IsName(p.name), api.ErrName),
			common.ErrorIf(twice, api.ErrTwice),
			r.matrixError(p.ends[gets]),
			r.matrixError(p.ends[leads]),
			common.ErrorIf(p.role == tieRole && p.ends == [2]int{p.ends[leads], p.ends[gets]}, api.ErrConflict),
		)
	})
}

// compare compares where two points stand: by their levels, then by their outputs.
func (known ports) compare(a, b Point) int {
	return cmp.Or(
		cmp.Compare(a.Level, b.Level),
		cmp.Compare(known[a.Output].place, known[b.Output].place),
	)
}

// portError returns ErrUnknown if no port of the router with this role has a name, otherwise OK.
func (r Router) portError(name string, is role) api.Errno {
	return common.ErrorIf(r.ports()[name].role != is, api.ErrUnknown)
}

// matrixError returns ErrUnknown if a matrix is none of the router, otherwise OK.
func (r Router) matrixError(matrix int) api.Errno {
	return common.ErrorIf(matrix < 0 || matrix >= r.Matrices, api.ErrUnknown)
}
