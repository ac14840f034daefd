package router

import (
	"cmp"
	"iter"
	"slices"

	"genlock/api"
	"genlock/common"
)

// way is the beginning of a way: the indices of its ties, how many of them are not busy, and the matrix to which it leads.
type way struct {
	ties []int
	free int
	at   int
}

// Way returns the least way from a source to a destination.
func Way(r Router, level int, source, destination string) ([]string, api.Errno) {
	if e := r.endsError(level, source, destination); e != api.OK {
		return nil, e
	}
	l, _, ok := r.search(level, source, destination)
	return l, common.ErrorIf(!ok, api.ErrInfeasible)
}

// CheckWay returns OK for a way.
func CheckWay(r Router, level int, source, destination string, way []string) api.Errno {
	e := common.First(
		r.endsError(level, source, destination),
		r.tiesError(way),
	)
	if e != api.OK {
		return e
	}
	return common.ErrorIf(!r.isWay(level, source, destination, way), api.ErrProof)
}

// Cut returns a cut between a source and a destination.
func Cut(r Router, level int, source, destination string) ([]int, api.Errno) {
	if e := r.endsError(level, source, destination); e != api.OK {
		return nil, e
	}
	_, reached, ok := r.search(level, source, destination)
	if ok {
		return nil, api.ErrConflict
	}
	var cut []int
	for matrix := range r.Matrices {
		if reached[matrix] {
			cut = append(cut, matrix)
		}
	}
	return cut, api.OK
}

// CheckCut returns OK for a cut between a source and a destination.
func CheckCut(r Router, level int, source, destination string, cut []int) api.Errno {
	e := common.First(
		r.endsError(level, source, destination),
		r.matricesError(cut),
	)
	if e != api.OK {
		return e
	}
	return common.ErrorIf(!r.isCut(level, source, destination, cut), api.ErrProof)
}

// endsError returns the error of a router, a level, a source and a destination, or OK.
func (r Router) endsError(level int, source, destination string) api.Errno {
	return common.First(
		CheckRouter(r),
		r.levelError(level),
		r.portError(source, sourceRole),
		r.portError(destination, destinationRole),
	)
}

// tiesError returns the error of a list of different ties, or OK.
func (r Router) tiesError(names []string) api.Errno {
	if len(names) > MaxTies {
		return api.ErrMany
	}
	before := map[string]bool{}
	return common.FirstOf(names, func(name string) api.Errno {
		e := common.First(r.portError(name, tieRole), common.ErrorIf(before[name], api.ErrTwice))
		before[name] = true
		return e
	})
}

// matricesError returns the error of an ascending list of matrices, or OK.
func (r Router) matricesError(l []int) api.Errno {
	if len(l) > MaxMatrices {
		return api.ErrMany
	}
	before := -1
	return common.FirstOf(l, func(matrix int) api.Errno {
		e := common.First(r.matrixError(matrix), common.ErrorIf(matrix <= before, api.ErrOrder))
		before = matrix
		return e
	})
}

// isWay reports whether different ties are a way from a source to a destination of a sound router.
func (r Router) isWay(level int, source, destination string, names []string) bool {
	known := r.ports()
	at := known[source].ends[leads]
	for i, name := range names {
		tie := known[name]
		carried := r.carried(level, name)
		shared := i == 0 && carried == source
		if !shared && (carried != "" || tie.ends[gets] != at) {
			return false
		}
		at = tie.ends[leads]
	}
	return at == known[destination].ends[gets]
}

// isCut reports whether matrices are a cut between a source and a destination of a sound router.
func (r Router) isCut(level int, source, destination string, cut []int) bool {
	known := r.ports()
	var inside [MaxMatrices]bool
	for _, matrix := range cut {
		inside[matrix] = true
	}
	leaks := slices.ContainsFunc(r.Ties, func(t Tie) bool {
		ends := [2]bool{inside[t.From], inside[t.To]}
		carried := r.carried(level, t.Name)
		return carried == source && !inside[t.To] || carried == "" && ends == [2]bool{true, false}
	})
	return inside[known[source].ends[leads]] && !inside[known[destination].ends[gets]] && !leaks
}

// search returns the least way from a source to a destination of a sound router, and true; or, if there is none, the matrices that the source can reach, and false. Of the beginnings that lead to a matrix only the least one matters, because what makes a way of it makes a greater one of the others.
func (r Router) search(level int, source, destination string) ([]string, [MaxMatrices]bool, bool) {
	to := r.ports()[destination].ends[gets]
	ways := r.beginnings(level, source)
	var reached [MaxMatrices]bool
	var least way
	found := false
search:
	for len(ways) > 0 {
		slices.SortFunc(ways, way.compare)
		least = ways[0]
		ways = ways[1:]
		switch {
		case least.at == to:
			found = true
			break search
		case reached[least.at]:
			continue
		}
		reached[least.at] = true
		for i, t := range r.freeTies(level, least.at) {
			ways = append(ways, way{ties: append(slices.Clone(least.ties), i), free: least.free + 1, at: t.To})
		}
	}
	if !found {
		return nil, reached, false
	}
	return common.Mapped(least.ties, func(i int) string { return r.Ties[i].Name }), reached, true
}

// beginnings returns the beginnings of ways without a tie that is not busy: no tie at all, and each tie that carries the source already.
func (r Router) beginnings(level int, source string) []way {
	l := []way{{at: r.ports()[source].ends[leads]}}
	for i, t := range r.Ties {
		if r.carried(level, t.Name) == source {
			l = append(l, way{ties: []int{i}, at: t.To})
		}
	}
	return l
}

// freeTies returns the ties that lead from a matrix and are not busy at a level, with their indices.
func (r Router) freeTies(level, matrix int) iter.Seq2[int, Tie] {
	return func(yield func(int, Tie) bool) {
		for i, t := range r.Ties {
			if t.From == matrix && !r.isSet(level, t.Name) && !yield(i, t) {
				return
			}
		}
	}
}

// compare compares ways: by the number of ties that are not busy, then by that of all ties, then by the first ties that differ.
func (w way) compare(other way) int {
	return cmp.Or(
		cmp.Compare(w.free, other.free),
		cmp.Compare(len(w.ties), len(other.ties)),
		slices.Compare(w.ties, other.ties),
	)
}
