package router

import (
	"strconv"
	"strings"

	"genlock/api"
	"genlock/common"
)

// The words of a destination.
const (
	free      = "free"
	protected = "protected"
)

// lineKind is a kind of lines: their first word, what reads the words behind it, and what adds the line to a router.
type lineKind struct {
	word string
	read func(take func() (string, bool)) (common.Line, bool)
	add  func(r *Router, l common.Line)
}

// lineKinds returns the kinds of lines in the order in which they stand.
func lineKinds() []lineKind {
	return []lineKind{
		{"router", common.ReadParts(common.Count, common.Count), (*Router).addSize},
		{"source", common.ReadParts(common.Word, common.Count), (*Router).addSource},
		{"destination", common.ReadParts(common.Word, common.Count, common.OneOf(free, protected)), (*Router).addDestination},
		{"tie", common.ReadParts(common.Word, common.Count, common.Count), (*Router).addTie},
		{"point", common.ReadParts(common.Count, common.Word, common.Word), (*Router).addPoint},
	}
}

// lineForms returns the forms of lines by their first words. The first kind is that of the first line alone; a line of another kind stands behind one of its own kind, or of a kind before it.
func lineForms() map[string]common.Form {
	forms := map[string]common.Form{}
	places := map[string]int{}
	for place, k := range lineKinds() {
		stands := common.IsFirst
		if place > 0 {
			stands = func(before string) bool { return common.IsLater(before) && places[before] <= place }
		}
		places[k.word] = place
		forms[k.word] = common.Form{Stands: stands, Read: k.read}
	}
	return forms
}

// Print returns the text of a router.
func Print(r Router) (string, api.Errno) {
	if e := CheckRouter(r); e != api.OK {
		return "", e
	}
	var text strings.Builder
	common.PrintLine(&text, "router", strconv.Itoa(r.Levels), strconv.Itoa(r.Matrices))
	for _, s := range r.Sources {
		common.PrintLine(&text, "source", s.Name, strconv.Itoa(s.Matrix))
	}
	for _, d := range r.Destinations {
		word := free
		if d.Protected {
			word = protected
		}
		common.PrintLine(&text, "destination", d.Name, strconv.Itoa(d.Matrix), word)
	}
	for _, t := range r.Ties {
		common.PrintLine(&text, "tie", t.Name, strconv.Itoa(t.From), strconv.Itoa(t.To))
	}
	for _, p := range r.Points {
		common.PrintLine(&text, "point", strconv.Itoa(p.Level), p.Output, p.Input)
	}
	return text.String(), api.OK
}

// Parse returns the router with a text, or the index of the first line that is wrong.
func Parse(s string) (Router, int, api.Errno) {
	if len(s) > api.MaxText {
		return Router{}, 0, api.ErrLong
	}
	lines, at, ok := common.ReadLines(s, lineForms())
	if !ok || len(lines) == 0 {
		return Router{}, at, api.ErrSyntax
	}
	r := fromLines(lines)
	if e := CheckRouter(r); e != api.OK {
		return Router{}, at, e
	}
	return r, 0, api.OK
}

// fromLines returns the router of the lines of a text.
func fromLines(l []common.Line) Router {
	adders := map[string]func(*Router, common.Line){}
	for _, k := range lineKinds() {
		adders[k.word] = k.add
	}
	var r Router
	for _, line := range l {
		adders[line.First](&r, line)
	}
	return r
}

func (r *Router) addSize(l common.Line) {
	r.Levels, r.Matrices = l.Numbers[0], l.Numbers[1]
}

func (r *Router) addSource(l common.Line) {
	r.Sources = append(r.Sources, Source{Name: l.Words[0], Matrix: l.Numbers[0]})
}

func (r *Router) addDestination(l common.Line) {
	r.Destinations = append(r.Destinations, Destination{Name: l.Words[0], Matrix: l.Numbers[0], Protected: l.Words[1] == protected})
}

func (r *Router) addTie(l common.Line) {
	r.Ties = append(r.Ties, Tie{Name: l.Words[0], From: l.Numbers[0], To: l.Numbers[1]})
}

func (r *Router) addPoint(l common.Line) {
	r.Points = append(r.Points, Point{Level: l.Numbers[0], Output: l.Words[0], Input: l.Words[1]})
}
