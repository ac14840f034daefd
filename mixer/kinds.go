package mixer

import (
	"genlock/api"
	"genlock/common"
)

// source is the kind of the nodes whose pictures are given.
const source = "source"

// own is what a node uses beside its inputs: as a line says it, and in a node that has nothing else.
type own struct {
	line func(n Node) common.Line
	node func(l common.Line) Node
}

// kind is what the nodes of a kind use: how many inputs, and what else, with its error; and what becomes of them: the levels of their pictures, and their ranges.
type kind struct {
	inputs int
	own
	check  func(n Node) api.Errno
	levels func(c composed) []int
	extent func(r ranged) api.Interval
}

// kinds returns the kinds of nodes.
func kinds() map[string]kind {
	number := own{Node.numberLine, numberNode}
	slope := own{Node.slopeLine, slopeNode}
	wipe := own{Node.wipeLine, wipeNode}
	return map[string]kind{
		source:  {0, number, Node.checkSource, composed.source, ranged.source},
		"matte": {0, number, Node.checkMatte, composed.matte, ranged.matte},
		"mix":   {2, number, Node.checkMix, composed.mix, ranged.both},
		"wipe":  {2, wipe, Node.checkWipe, composed.wipe, ranged.both},
		"key":   {3, slope, Node.checkSlope, composed.key, ranged.both},
	}
}

func (n Node) numberLine() common.Line {
	return common.Line{Numbers: []int{n.Number}}
}

func numberNode(l common.Line) Node {
	return Node{Number: l.Numbers[0]}
}

func (n Node) slopeLine() common.Line {
	return common.Line{Numbers: []int{n.Slope.Clip, n.Slope.Gain}}
}

func slopeNode(l common.Line) Node {
	return Node{Slope: Slope{Clip: l.Numbers[0], Gain: l.Numbers[1]}}
}

func (n Node) wipeLine() common.Line {
	w := n.Wipe
	return common.Line{Words: []string{w.Shape}, Numbers: []int{w.A, w.B, w.At, w.Soft}}
}

func wipeNode(l common.Line) Node {
	return Node{Wipe: Wipe{Shape: l.Words[0], A: l.Numbers[0], B: l.Numbers[1], At: l.Numbers[2], Soft: l.Numbers[3]}}
}

func (n Node) checkSource() api.Errno {
	return indexError(n.Number)
}

func (n Node) checkMatte() api.Errno {
	return common.LevelError(n.Number)
}

func (n Node) checkMix() api.Errno {
	return shareError(n.Number)
}

func (n Node) checkSlope() api.Errno {
	return n.Slope.check()
}

func (n Node) checkWipe() api.Errno {
	return n.Wipe.check()
}

// indexError returns the error of a source's number, or OK.
func indexError(number int) api.Errno {
	return common.Outside(number, 0, MaxPictures-1)
}
