package composite

import (
	"genlock/api"
	"genlock/common"
)

// integers are those of the samples of parts.
type integers struct {
	luma []int
	u    []int
	v    []int
}

// Band returns the parts of a line by itself.
func Band(l []float32, line int) (Parts, api.Errno) {
	if e := common.First(CheckSignal(l), lineError(line)); e != api.OK {
		return Parts{}, e
	}
	var n integers
	for _, own := range cyclesOf(l) {
		n.add(byItself(own, signOf(line)))
	}
	return n.parts()
}

// Two returns the parts of a line with the help of the next one, or of the one before the last one.
func Two(l [][]float32, line int) (Parts, api.Errno) {
	e := common.First(CheckField(l), placeError(l, line), common.ErrorIf(len(l) == 1, api.ErrShort))
	if e != api.OK {
		return Parts{}, e
	}
	beside := line + 1
	if beside == len(l) {
		beside = line - 1
	}
	var n integers
	for c, own := range cyclesOf(l[line]) {
		n.add(byTwo(own, cycleAt(l[beside], c), signOf(line)))
	}
	return n.parts()
}

// Three returns the parts of a line with the help of both neighbours.
func Three(l [][]float32, line int) (Parts, api.Errno) {
	e := common.First(CheckField(l), placeError(l, line), common.ErrorIf(!isBetween(l, line), api.ErrSpan))
	if e != api.OK {
		return Parts{}, e
	}
	var n integers
	for c := range cyclesOf(l[line]) {
		n.add(byThree(l, line, c))
	}
	return n.parts()
}

// Decoded returns the parts of all lines, and for each cycle whether three lines were used.
func Decoded(l [][]float32, limit int) ([]Parts, [][]bool, api.Errno) {
	if e := common.First(CheckField(l), common.Outside(limit, 0, MaxLimit)); e != api.OK {
		return nil, nil, e
	}
	parts, chosen := make([]Parts, len(l)), make([][]bool, len(l))
	for line := range l {
		p, three, e := byChoice(l, line, limit)
		if e != api.OK {
			return nil, nil, e
		}
		parts[line], chosen[line] = p, three
	}
	return parts, chosen, api.OK
}

// byItself returns the luma and the colour differences of a cycle by the line itself.
func byItself(own cycle, sign int) (cycle, [2]int) {
	colour := differences(own, sign, 2)
	return own.plus(-sign, carrier(colour)), colour
}

// byTwo returns the luma and the colour differences of a cycle by its line and another one.
func byTwo(own, other cycle, sign int) (cycle, [2]int) {
	luma := own.plus(1, other)
	for m, n := range luma {
		luma[m] = common.Nearest(n, 2)
	}
	return luma, differences(own.plus(-1, other), sign, 4)
}

// byThree returns the luma and the colour differences of a cycle of a line by this line and both lines beside it.
func byThree(l [][]float32, line, c int) (cycle, [2]int) {
	own, sign := cycleAt(l[line], c), signOf(line)
	d := own.plus(1, own).plus(-1, cycleAt(l[line-1], c)).plus(-1, cycleAt(l[line+1], c))
	colour := differences(d, sign, 8)
	return own.plus(-sign, carrier(colour)), colour
}

// byChoice returns the parts of a line by choice, and for each cycle whether three lines were used.
func byChoice(l [][]float32, line, limit int) (Parts, []bool, api.Errno) {
	var n integers
	three := make([]bool, len(l[line])/Quarters)
	for c, own := range cyclesOf(l[line]) {
		three[c] = isChosen(l, line, c, limit)
		if three[c] {
			n.add(byThree(l, line, c))
		} else {
			n.add(byItself(own, signOf(line)))
		}
	}
	p, e := n.parts()
	if e != api.OK {
		return Parts{}, nil, e
	}
	return p, three, api.OK
}

// isChosen reports whether a cycle of a line is decoded by three lines.
func isChosen(l [][]float32, line, c, limit int) bool {
	return isBetween(l, line) && distance(cycleAt(l[line-1], c), cycleAt(l[line+1], c)) <= limit
}

// isBetween reports whether a line has a line before it, and one after it.
func isBetween(l [][]float32, line int) bool {
	return line > 0 && line < len(l)-1
}

// differences returns the sign times the differences of the samples 0 and 2, and 1 and 3, divided by a number and rounded.
func differences(c cycle, sign, by int) [2]int {
	l := c.opposite()
	for i, n := range l {
		l[i] = common.Nearest(sign*n, by)
	}
	return l
}

// add adds a cycle.
func (n *integers) add(luma cycle, colour [2]int) {
	n.luma = append(n.luma, luma[:]...)
	n.u = append(n.u, colour[0])
	n.v = append(n.v, colour[1])
}

// parts returns the parts with these integers; ErrLarge if one is not a sample's.
func (n integers) parts() (Parts, api.Errno) {
	luma, e1 := common.Samples(n.luma)
	u, e2 := common.Samples(n.u)
	v, e3 := common.Samples(n.v)
	if e := common.First(e1, e2, e3); e != api.OK {
		return Parts{}, e
	}
	return Parts{Luma: luma, U: u, V: v}, api.OK
}
