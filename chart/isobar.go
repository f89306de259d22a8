package chart

import (
	"cmp"
	"slices"

	"isobar/api"
)

// plot is a field that is looked at, at a level.
type plot struct {
	api.ChartField
	grid
	level int
}

// lookAt returns the plot of a field that is as defined.
func lookAt(f api.ChartField, level int) plot {
	return plot{ChartField: f, grid: grid{wide: f.Wide, rows: len(f.Values) / f.Wide}, level: level}
}

// high reports whether a point is high.
func (p plot) high(point int) bool {
	return p.Values[point] >= p.level
}

// crossings returns all crossings, in their order.
func (p plot) crossings() []api.ChartCross {
	var found []api.ChartCross
	for low := range p.points() {
		for high := range p.neighbours(low) {
			if !p.high(low) && p.high(high) {
				found = append(found, api.ChartCross{Low: low, High: high})
			}
		}
	}
	return found
}

// within returns the crossings of a cell.
func (p plot) within(c cell) []api.ChartCross {
	var found []api.ChartCross
	for i, a := range c {
		b := c[(i+1)%len(c)]
		switch {
		case !p.high(a) && p.high(b):
			found = append(found, api.ChartCross{Low: a, High: b})
		case p.high(a) && !p.high(b):
			found = append(found, api.ChartCross{Low: b, High: a})
		}
	}
	return found
}

// tracing is isobars that are being traced: for each crossing those to which it is joined, and whether it has been traced.
type tracing struct {
	crossings []api.ChartCross
	joined    map[api.ChartCross][]api.ChartCross
	traced    map[api.ChartCross]bool
}

// trace returns the tracing of the isobars of a plot, before any has been traced.
func (p plot) trace() tracing {
	t := tracing{p.crossings(), map[api.ChartCross][]api.ChartCross{}, map[api.ChartCross]bool{}}
	for c := range p.cells() {
		found := p.within(c)
		for i, a := range found {
			for _, b := range found[i+1:] {
				if len(found) == 2 || a.High == b.High {
					t.joined[a] = append(t.joined[a], b)
					t.joined[b] = append(t.joined[b], a)
				}
			}
		}
	}
	for _, c := range t.crossings {
		slices.SortFunc(t.joined[c], order)
	}
	return t
}

// order compares two crossings.
func order(a, b api.ChartCross) int {
	return cmp.Or(cmp.Compare(a.Low, b.Low), cmp.Compare(a.High, b.High))
}

// start returns the crossing with which the next isobar begins, and whether there is one. Isobars that are not closed come first, so that of what is left each crossing is one of a closed one.
func (t tracing) start() (api.ChartCross, bool) {
	c, found := first(slices.Values(t.crossings), func(c api.ChartCross) bool {
		return !t.traced[c] && len(t.joined[c]) < 2
	})
	if found {
		return c, true
	}
	return first(slices.Values(t.crossings), func(c api.ChartCross) bool {
		return !t.traced[c]
	})
}

// isobar traces the isobar that begins with a crossing.
func (t tracing) isobar(start api.ChartCross) []api.ChartCross {
	var line []api.ChartCross
	at := start
isobar:
	for {
		line = append(line, at)
		t.traced[at] = true
		for _, next := range t.joined[at] {
			if !t.traced[next] {
				at = next
				continue isobar
			}
		}
		break isobar
	}
	return line
}

// isobars returns all isobars, in their order.
func (p plot) isobars() [][]api.ChartCross {
	var lines [][]api.ChartCross
	t := p.trace()
	for start, more := t.start(); more; start, more = t.start() {
		lines = append(lines, t.isobar(start))
	}
	slices.SortFunc(lines, func(a, b []api.ChartCross) int {
		return order(a[0], b[0])
	})
	return lines
}
