package chart

import (
	"iter"
	"slices"

	"isobar/api"
)

// side is one of both sides of a level.
type side int

const (
	lowSide side = iota
	highSide
)

// sideOf returns the side of highs, or that of lows.
func sideOf(high bool) side {
	if high {
		return highSide
	}
	return lowSide
}

// other returns the opposite side.
func (s side) other() side {
	return highSide - s
}

// asked returns the view of a map; or the error of a map, a point or a level that is not as defined, or of a map that is not possible.
func asked(m api.ChartMap, point, level int) (view, api.Errno) {
	if !soundMap(m) || !soundPoint(m, point) || !soundLevel(level) {
		return view{}, api.ErrArg
	}
	return possible(m)
}

// on reports whether a point is on a side of the level.
func (p plot) on(point int, s side) bool {
	return sideOf(p.high(point)) == s
}

// linked yields the points with which a point is connected if they are on the same side: low points across the corner of a cell, too, but high ones not.
func (p plot) linked(point int, s side) iter.Seq[int] {
	if s == lowSide {
		return p.around(point)
	}
	return p.neighbours(point)
}

// edgeReached is what a search that has come to the edge gives up with.
type edgeReached struct{}

// encloses reports whether a point that is on a side lies in a closed low, or a closed high, there.
func (p plot) encloses(point int, s side) (enclosed bool) {
	defer func() {
		if _, reached := recover().(edgeReached); reached {
			enclosed = false
		}
	}()
	seen := make([]bool, p.points())
	var search func(at int)
	search = func(at int) {
		if p.atEdge(at) {
			panic(edgeReached{})
		}
		seen[at] = true
		for next := range p.linked(at, s) {
			if !seen[next] && p.on(next, s) {
				search(next)
			}
		}
	}
	search(point)
	return true
}

// plotted returns the field of all least values, or that of all greatest ones, at a level.
func (v view) plotted(s side, level int) plot {
	return lookAt(v.extreme(s), level)
}

// only returns the map whose fields are those in which a point is on a side of a level.
func (v view) only(point, level int, s side) view {
	pressure := api.Span{Low: 0, High: level - 1}
	if s == highSide {
		pressure = api.Span{Low: level, High: api.ChartMost}
	}
	m := v.ChartMap
	m.Stations = append(slices.Clone(m.Stations), api.ChartStation{Point: point, Pressure: pressure})
	return look(m)
}

// shown returns the field that shows a low, or a high, and whether there is one. No field in which the point is on the side has fewer points there: if any one encloses the point, this one does.
func (v view) shown(point, level int, s side) (api.ChartField, bool) {
	if !v.plotted(s, level).on(point, s) {
		return api.ChartField{}, false
	}
	p := v.only(point, level, s).plotted(s.other(), level)
	if !p.encloses(point, s) {
		return api.ChartField{}, false
	}
	return p.ChartField, true
}

// sure reports whether each field encloses a point: whether it is always on the side, and enclosed even by the field that has most points there.
func (v view) sure(point, level int, s side) bool {
	return v.plotted(s.other(), level).on(point, s) && v.plotted(s, level).encloses(point, s)
}

// word returns whether a point lies in a closed low, or a closed high: surely, perhaps or never.
func (v view) word(point, level int, s side) api.ChartWord {
	_, found := v.shown(point, level, s)
	switch {
	case !found:
		return api.ChartNever
	case v.sure(point, level, s):
		return api.ChartSurely
	}
	return api.ChartMay
}
