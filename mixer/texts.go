package mixer

import (
	"slices"
	"strconv"
	"strings"

	"genlock/api"
	"genlock/common"
)

// Print returns the text of a tree.
func Print(t []Node) (string, api.Errno) {
	if e := CheckTree(t); e != api.OK {
		return "", e
	}
	known := kinds()
	var text strings.Builder
	for _, n := range t {
		k := known[n.Kind]
		own := k.line(n)
		common.PrintLine(&text, slices.Concat(
			[]string{n.Kind},
			common.Mapped(n.used(), strconv.Itoa),
			own.Words,
			common.Mapped(own.Numbers, strconv.Itoa),
		)...)
	}
	return text.String(), api.OK
}

// Parse returns the tree of a text, and the index of the first line that is wrong.
func Parse(s string) ([]Node, int, api.Errno) {
	if len(s) > api.MaxText {
		return nil, 0, api.ErrLong
	}
	lines, at, ok := common.ReadLines(s, lineForms())
	if !ok {
		return nil, at, api.ErrSyntax
	}
	t := common.Mapped(lines, nodeOf)
	if e := CheckTree(t); e != api.OK {
		return nil, at, e
	}
	return t, 0, api.OK
}

// lineForms returns the forms of lines by their first words.
func lineForms() map[string]common.Form {
	forms := map[string]common.Form{}
	for word, k := range kinds() {
		forms[word] = common.Form{Stands: common.IsAny, Read: common.ReadParts(k.parts()...)}
	}
	return forms
}

// parts returns what reads the words of the kind's lines behind the first one.
func (k kind) parts() []common.Part {
	own := k.line(Node{})
	return slices.Concat(
		slices.Repeat([]common.Part{common.Integer}, k.inputs),
		slices.Repeat([]common.Part{common.Word}, len(own.Words)),
		slices.Repeat([]common.Part{common.Integer}, len(own.Numbers)),
	)
}

// nodeOf returns the node of a line that has the form of its kind.
func nodeOf(l common.Line) Node {
	k := kinds()[l.First]
	var inputs [3]int
	copy(inputs[:], l.Numbers[:k.inputs])
	l.Numbers = l.Numbers[k.inputs:]
	n := k.node(l).withInputs(inputs)
	n.Kind = l.First
	return n
}
