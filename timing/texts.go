package timing

import (
	"strconv"
	"strings"

	"genlock/api"
	"genlock/common"
)

// lineForms returns the forms of lines by their first words.
func lineForms() map[string]common.Form {
	return map[string]common.Form{
		"node": {Stands: common.IsAny, Read: common.ReadParts(common.Word)},
		"edge": {Stands: common.IsAny, Read: common.ReadParts(common.Word, common.Word, common.Count, common.Count)},
	}
}

// Print returns the text of a net.
func Print(n Net) (string, api.Errno) {
	if e := CheckNet(n); e != api.OK {
		return "", e
	}
	var text strings.Builder
	for _, name := range n.Nodes {
		common.PrintLine(&text, "node", name)
	}
	for _, e := range n.Edges {
		common.PrintLine(&text, "edge", n.Nodes[e.From], n.Nodes[e.To], strconv.Itoa(e.Low), strconv.Itoa(e.High))
	}
	return text.String(), api.OK
}

// Parse returns the net of a text, and the index of the first line that is wrong.
func Parse(s string) (Net, int, api.Errno) {
	if len(s) > api.MaxText {
		return Net{}, 0, api.ErrLong
	}
	lines, at, ok := common.ReadLines(s, lineForms())
	n, known := fromLines(lines)
	if known < len(lines) {
		return Net{}, known, api.ErrUnknown
	}
	if e := common.First(common.ErrorIf(!ok, api.ErrSyntax), CheckNet(n)); e != api.OK {
		return Net{}, at, e
	}
	return n, 0, api.OK
}

// fromLines returns the net of the lines of a text that stand before the first edge of a node that no line before it has, and their number.
func fromLines(l []common.Line) (Net, int) {
	var n Net
	places := map[string]int{}
	for at, line := range l {
		if len(line.Words) == 1 { // a node
			name := line.Words[0]
			places[name] = len(n.Nodes)
			n.Nodes = append(n.Nodes, name)
			continue
		}
		from, known := places[line.Words[0]]
		to, both := places[line.Words[1]]
		if !known || !both {
			return n, at
		}
		n.Edges = append(n.Edges, Edge{From: from, To: to, Low: line.Numbers[0], High: line.Numbers[1]})
	}
	return n, len(l)
}
