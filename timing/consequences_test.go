package timing_test

import (
	"slices"
	"testing"

	"genlock/api"
	"genlock/timing"
)

// format returns any format with at most so many samples and lines.
func (d *dice) format(samples, lines int) timing.Format {
	f := timing.Format{Samples: 2 + d.below(samples-1), Lines: 2 + d.below(lines-1), Fields: 1 + d.below(2), Cycle: 1 + d.below(8)}
	f.Blank = 1 + d.below(f.Samples-1)
	f.Sync = 1 + d.below(f.Blank)
	f.Vertical = 1 + d.below(f.Lines/f.Fields)
	return f
}

// P4.6 and P4: ticks and positions are a bijection.
func TestTicksComeBack(t *testing.T) {
	d := dice(7)
	for range 3000 {
		f := d.format(2000, 2000)
		want(t, f, results(timing.CheckFormat(f)), api.OK)
		tick := d.below(maxTime + 1)
		p := must[timing.Position](t)(timing.At(f, tick))
		want(t, results(f, p), results(timing.Tick(f, p)), tick, api.OK)
		field := d.below(f.Fields)
		p = timing.Position{Frame: d.below(3), Field: field, Line: d.below((f.Lines + 1 - field) / f.Fields), Sample: d.below(f.Samples)}
		if f.Fields == 1 {
			p.Line = d.below(f.Lines)
		}
		tick, e := timing.Tick(f, p)
		if e != api.ErrLarge {
			want(t, results(f, tick, e), results(timing.At(f, tick)), p, e)
		}
	}
}

// P4.6: each row of a frame has as many ticks as there are samples in a line.
func TestRowsOfAFrame(t *testing.T) {
	d := dice(8)
	for range 100 {
		f := d.format(20, 20)
		rows := make([]int, f.Lines)
		first := d.below(100) * f.Samples * f.Lines
		for tick := first; tick < first+f.Samples*f.Lines; tick++ {
			rows[must[int](t)(timing.Row(f, must[timing.Position](t)(timing.At(f, tick))))]++
		}
		want(t, f, results(rows), slices.Repeat([]int{f.Samples}, f.Lines))
	}
}

// P4.6: vertical intervals are blanked, and there is one in each field.
func TestVerticalIntervals(t *testing.T) {
	d := dice(9)
	for range 100 {
		f := d.format(20, 20)
		tick := 0
		for field := range 3 * f.Fields {
			s := must[api.Span](t)(timing.Vertical(f, tick))
			p := must[timing.Position](t)(timing.At(f, s.From))
			want(t, results(f, field), results(p), timing.Position{Frame: field / f.Fields, Field: field % f.Fields})
			for tick = s.From; tick < s.To; tick++ {
				want(t, results(f, tick), results(timing.Blanked(f, tick)), true, api.OK)
				if x := must[[]float32](t)(timing.Signal(f, tick, 1))[0]; x > 0 {
					t.Errorf("%+v: the signal at %d is %v", f, tick, x)
				}
			}
		}
	}
}

// P4.6: no plan has a lesser time than the least plan, nor a time outside of the windows.
func TestLeastPlan(t *testing.T) {
	d := dice(10)
	tried := 0
	for range 3000 {
		n := d.net(4, 1+d.below(6), 10, 3)
		least, e := timing.Plan(n)
		times := []int{0, d.below(10), d.below(10), d.below(10)}
		if timing.CheckPlan(n, times) != api.OK {
			continue
		}
		tried++
		want(t, n, results(e), api.OK)
		for node, at := range times {
			w, e := timing.Window(n, node)
			if least[node] > at || e == api.OK && (w.Low > at || w.High < at) {
				t.Errorf("%+v: the plan %v is not within the least one %v and the windows", n, times, least)
			}
		}
	}
	if tried < 100 {
		t.Errorf("only %d plans", tried)
	}
}

// P4.6: a further edge makes no time less, and an edge fewer none greater.
func TestEdgesMoreAndFewer(t *testing.T) {
	d := dice(11)
	for range 2000 {
		n := d.net(2+d.below(11), 1+d.below(23), 1000, 1)
		at := d.below(len(n.Edges))
		fewer := must[timing.Net](t)(timing.Without(n, at))
		more := must[timing.Net](t)(timing.Added(fewer, n.Edges[at]))
		want(t, n, results(more.Edges), slices.Concat(n.Edges[:at], n.Edges[at+1:], n.Edges[at:at+1]))
		a, e := timing.Plan(n)
		b, none := timing.Plan(fewer)
		want(t, n, results(timing.Plan(more)), a, e)
		if e != api.OK {
			continue
		}
		want(t, fewer, results(none), api.OK)
		for node := range a {
			if b[node] > a[node] {
				t.Errorf("%+v without the edge %d: %v becomes %v", n, at, a, b)
			}
		}
	}
}

// P4.6: a counter falls into step in as few frames as its error asks for.
func TestFewFrames(t *testing.T) {
	d := dice(12)
	for range 3000 {
		period := 1 + d.below(100000)
		wrong, step := d.below(period), 1+d.below(5000)
		frames := (min(wrong, period-wrong) + step - 1) / step
		l, e := timing.Lock(period, wrong, step)
		if frames > 255 {
			want(t, results(period, wrong, step), results(l, e), []int(nil), api.ErrMany)
			continue
		}
		want(t, results(period, wrong, step), results(len(l), slices.Index(l, 0), e), frames+1, frames, api.OK)
	}
}

// P4.6: nets are parsed as they were printed.
func TestTextsComeBack(t *testing.T) {
	d := dice(13)
	for range 500 {
		n := d.net(1+d.below(12), d.below(25), 100000, 20)
		text := must[string](t)(timing.Print(n))
		want(t, text, results(timing.Parse(text)), n, 0, api.OK)
	}
}
