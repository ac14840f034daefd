package timing_test

import (
	"strings"
	"testing"

	"genlock/api"
	"genlock/timing"
)

const textN = "node ref\nnode cam\nnode tape\nnode mix\nedge ref cam 0 100\nedge cam mix 50 60\nedge ref tape 20 20\nedge tape mix 80 90\n"

// P4.5
func TestPrint(t *testing.T) {
	want(t, "N", results(timing.Print(netN(100))), textN, api.OK)
	want(t, "the reference alone", results(timing.Print(net(1))), "node ref\n", api.OK)
	want(t, "delays", results(timing.Print(net(2, timing.Edge{From: 1, To: 0, Low: 0, High: 100000}))), "node ref\nnode cam\nedge cam ref 0 100000\n", api.OK)
	want(t, "no plan", results(timing.Print(net(2, timing.Edge{From: 1, To: 0, Low: 1, High: 1}))), "node ref\nnode cam\nedge cam ref 1 1\n", api.OK)
	for _, n := range nets() {
		wantError(t, n.v, results(timing.Print(n.v)), n.e, "")
	}
}

// P4.5
func TestParse(t *testing.T) {
	want(t, "N", results(timing.Parse(textN)), netN(100), 0, api.OK)
	want(t, "the reference alone", results(timing.Parse("node a\n")), timing.Net{Nodes: []string{"a"}}, 0, api.OK)
	want(t, "nodes after edges", results(timing.Parse("node a\nnode b\nedge b a 0 100000\nnode c\nedge c b 5 5\nedge a c 5 6\n")), timing.Net{Nodes: []string{"a", "b", "c"}, Edges: []timing.Edge{{From: 1, To: 0, Low: 0, High: 100000}, {From: 2, To: 1, Low: 5, High: 5}, {From: 0, To: 2, Low: 5, High: 6}}}, 0, api.OK)
	want(t, "names that are words of the text", results(timing.Parse("node node\nnode edge\nedge edge node 1 2\n")), timing.Net{Nodes: []string{"node", "edge"}, Edges: []timing.Edge{{From: 1, To: 0, Low: 1, High: 2}}}, 0, api.OK)
}

// wrongLines are lines that have no form.
func wrongLines() []string {
	l := []string{"", " ", "x", "Node a", "nodes a", "nodea", "nod a", " node a", "node", "node ", "node  ", "node  a", "node a ", "node a b", "node a 1", "node\ta", "\xff", "net", "edge", "edge ", "Edge ref cam 1 2", "edges ref cam 1 2", " edge ref cam 1 2"}
	for _, words := range []string{"", "ref", "ref cam", "ref cam 1", "ref 1 2", " cam 1 2", "ref  1 2", "  1 2", "ref cam 1 2 3", "ref cam 1 2 ", "ref cam  1 2", "ref  cam 1 2", "ref cam 1  2", " ref cam 1 2", "ref cam mix 1 2", "ref cam 1 2\r", "ref cam 1\t2", "ref cam 1,2"} {
		l = append(l, "edge "+words)
	}
	for _, word := range []string{"", "-", "-0", "-1", "+1", "01", "00", "1a", "a1", "a", "1-", "0x1", "1_0", "1.0", "1e3", "1234567890", "0000000001", "99999999999999999999", "-999999999", "\u0661", "\xff", "\x00"} {
		l = append(l, "edge ref cam "+word+" 2", "edge ref cam 1 "+word)
	}
	return l
}

// P4.5: each line has its form.
func TestParseOfWrongLines(t *testing.T) {
	for _, line := range wrongLines() {
		for at := range 9 {
			lines := strings.SplitAfter(textN, "\n")
			before, behind := strings.Join(lines[:at], ""), strings.Join(lines[at:], "")
			want(t, results(line, at), results(timing.Parse(before+line+"\n"+behind)), timing.Net{}, at, api.ErrSyntax)
			want(t, results(line, at), results(timing.Parse(before+line+"\nnonsense\n"+behind)), timing.Net{}, at, api.ErrSyntax)
			if line != "" { // what stands after the last line feed is no line if it is empty
				want(t, results(line, at), results(timing.Parse(before+line)), timing.Net{}, at, api.ErrSyntax)
			}
		}
	}
	for cut := 1; cut < len(textN); cut++ {
		s := textN[:len(textN)-cut]
		lines := strings.Count(s, "\n")
		if !strings.HasSuffix(s, "\n") {
			want(t, s, results(timing.Parse(s)), timing.Net{}, lines, api.ErrSyntax)
		}
	}
}

// P4.5: edges of nodes that stand behind them, or nowhere.
func TestParseOfUnknownNodes(t *testing.T) {
	for _, x := range []struct {
		s  string
		at int
		e  api.Errno
	}{
		{"edge a b 1 2\n", 0, api.ErrUnknown},
		{"edge a b 1 2\nnode a\nnode b\n", 0, api.ErrUnknown},
		{"node a\nedge a b 1 2\nnode b\n", 1, api.ErrUnknown},
		{"node b\nedge a b 1 2\nnode a\n", 1, api.ErrUnknown},
		{"node a\nnode b\nedge a c 1 2\n", 2, api.ErrUnknown},
		{"node a\nnode b\nedge c a 1 2\n", 2, api.ErrUnknown},
		{"node a\nnode b\nedge a A 1 2\n", 2, api.ErrUnknown},
		{"node a\nnode b\nedge 0 1 1 2\n", 2, api.ErrUnknown},
		{"node a\nnode b\nedge a b 1 2\nedge a c 1 2\nedge d e 1 2\n", 3, api.ErrUnknown},
		{"node a\nedge a b 1 2\nnonsense\n", 1, api.ErrUnknown},
		{"node a\nedge a b 1 2\nnode b", 1, api.ErrUnknown},
		{"node a\nnonsense\nedge a b 1 2\n", 1, api.ErrSyntax},
		{"node a\nedge a b 1 2", 1, api.ErrSyntax},
		{"node a\nedge a b 1 02\n", 1, api.ErrSyntax},
		{"node a\nedge b a 1 2\nedge a b 1 02\n", 1, api.ErrUnknown},
		{"node 9\nnode 9\nedge a 9 1 2\n", 2, api.ErrUnknown},
		{"node 9\nnode b\nedge 9 9 2 1\nedge 9 a 1 2\n", 3, api.ErrUnknown},
		{"node a\nedge a a 1 2\nedge a b 1 2\n", 2, api.ErrUnknown},
	} {
		want(t, x.s, results(timing.Parse(x.s)), timing.Net{}, x.at, x.e)
	}
}

// P4.5: the errors of a text whose lines have their forms.
func TestParseOfWrongNets(t *testing.T) {
	two := "node a\nnode b\n"
	for _, x := range []struct {
		s  string
		at int
		e  api.Errno
	}{
		{"", 0, api.ErrEmpty},
		{"node 9\n", 1, api.ErrName},
		{"node \xff\n", 1, api.ErrName},
		{"node a\r\n", 1, api.ErrName},
		{"node a\nnode abcdefghijklmnopqrstuvwxy\n", 2, api.ErrName},
		{"node a\nnode a\n", 2, api.ErrTwice},
		{"node a\nnode b\nnode a\nedge a b 2 1\n", 4, api.ErrTwice},
		{"node a\nnode a\nnode 9\n", 3, api.ErrTwice},
		{two + "edge a a 1 2\n", 3, api.ErrConflict},
		{two + "edge b b 2 1\nnode c\n", 4, api.ErrConflict},
		{two + "edge a b 100001 100001\n", 3, api.ErrRange},
		{two + "edge a b 0 100001\n", 3, api.ErrRange},
		{two + "edge a b 999999999 0\n", 3, api.ErrRange},
		{two + "edge a b 0 999999999\n", 3, api.ErrRange},
		{two + "edge a b 2 1\n", 3, api.ErrOrder},
		{two + "edge a b 2 1\nedge a a 1 2\n", 4, api.ErrOrder},
		{two + strings.Repeat("edge a b 1 2\n", 25), 27, api.ErrMany},
		{two + strings.Repeat("edge a a 1 2\n", 25), 27, api.ErrMany},
		{two + strings.Repeat("edge a a 1 2\n", 25) + "node 9\n", 28, api.ErrName},
		{strings.Repeat("node a\n", 12), 12, api.ErrTwice},
		{strings.Repeat("node a\n", 13), 13, api.ErrMany},
	} {
		want(t, x.s, results(timing.Parse(x.s)), timing.Net{}, x.at, x.e)
	}
	n, at, e := timing.Parse(two + strings.Repeat("edge a b 1 2\n", 24))
	want(t, "24 edges", results(len(n.Nodes), len(n.Edges), at, e), 2, 24, 0, api.OK)
}

// P4.5: the length of a text.
func TestParseOfLongTexts(t *testing.T) {
	long := "node a\n" + strings.Repeat("node b\n", 584) // 4095 bytes
	want(t, "4095 bytes", results(timing.Parse(long)), timing.Net{}, 585, api.ErrMany)
	want(t, "4096 bytes", results(timing.Parse("node "+strings.Repeat("x", 4090)+"\n")), timing.Net{}, 1, api.ErrName)
	want(t, "4097 bytes", results(timing.Parse("node "+strings.Repeat("x", 4091)+"\n")), timing.Net{}, 0, api.ErrLong)
	want(t, "4096 bytes", results(timing.Parse(long+"x")), timing.Net{}, 585, api.ErrSyntax)
	want(t, "4097 bytes", results(timing.Parse(long+"xx")), timing.Net{}, 0, api.ErrLong)
	want(t, "4096 bytes", results(timing.Parse(strings.Repeat("\n", 4096))), timing.Net{}, 0, api.ErrSyntax)
	want(t, "4097 bytes", results(timing.Parse("node a\n"+strings.Repeat("\n", 4090))), timing.Net{}, 0, api.ErrLong)
}
