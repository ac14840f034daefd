package mixer

import (
	"genlock/api"
	"genlock/common"
)

// Node is a node of a tree.
type Node struct {
	Kind   string
	A      int
	B      int
	C      int
	Number int
	Slope  Slope
	Wipe   Wipe
}

// errorAt returns the error of the node, which has an index, or OK.
func (n Node) errorAt(at int) api.Errno {
	k, known := kinds()[n.Kind]
	if !known {
		return api.ErrKind
	}
	return common.First(
		n.formError(k),
		common.FirstOf(n.used(), func(input int) api.Errno {
			return common.ErrorIf(input < 0 || input >= at, api.ErrUnknown)
		}),
		k.check(n),
	)
}

// formError returns ErrForm if the node has something that its kind does not use, otherwise OK.
func (n Node) formError(k kind) api.Errno {
	var used [3]int
	copy(used[:], n.used())
	own := k.node(k.line(n))
	own.Kind = n.Kind
	return common.ErrorIf(n.inputs() != used || n.withInputs([3]int{}) != own, api.ErrForm)
}

// inputs returns the inputs of the node, also those that it does not use.
func (n Node) inputs() [3]int {
	return [3]int{n.A, n.B, n.C}
}

// used returns the inputs that the node uses.
func (n Node) used() []int {
	inputs := n.inputs()
	return inputs[:kinds()[n.Kind].inputs]
}

// withInputs returns the node with other inputs.
func (n Node) withInputs(l [3]int) Node {
	n.A, n.B, n.C = l[0], l[1], l[2]
	return n
}

// moved returns the node for a tree in which the nodes that it uses have other places.
func (n Node) moved(places []int) Node {
	inputs := n.inputs()
	for i, input := range n.used() {
		inputs[i] = places[input]
	}
	return n.withInputs(inputs)
}

// sourceNode returns the node for the source with a number.
func sourceNode(number int) Node {
	return Node{Kind: source, Number: number}
}
