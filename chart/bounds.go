package chart

import (
	"iter"

	"isobar/api"
)

// view is a map that is looked at.
type view struct {
	api.ChartMap
	grid
}

// look returns the view of a map that is as defined.
func look(m api.ChartMap) view {
	return view{ChartMap: m, grid: grid{wide: m.Wide, rows: m.Rows}}
}

// possible returns the view of a map, or the error of one that is not as defined, or not possible.
func possible(m api.ChartMap) (view, api.Errno) {
	if !soundMap(m) {
		return view{}, api.ErrArg
	}
	v := look(m)
	// It is enough to look at pairs: the least values that the stations leave to the points differ by Slope at most between neighbours, and at no station they are above its High unless another one contradicts it.
	if _, found := v.clash(); found {
		return view{}, api.ErrRule
	}
	return v, api.OK
}

// pair is the numbers of two stations, the lesser one first.
type pair struct {
	one   int
	other int
}

// pairs yields all pairs of stations, in lexicographic order.
func (v view) pairs() iter.Seq[pair] {
	return func(yield func(pair) bool) {
		for one := range v.Stations {
			for other := one + 1; other < len(v.Stations); other++ {
				if !yield(pair{one, other}) {
					return
				}
			}
		}
	}
}

// contradict reports whether no field passes two stations.
func (v view) contradict(two pair) bool {
	a, b := v.Stations[two.one], v.Stations[two.other]
	gap := greatest(a.Pressure.Low-b.Pressure.High, b.Pressure.Low-a.Pressure.High)
	return gap > v.change(a.Point, b.Point)
}

// clash returns the first two stations that contradict each other, and whether there are any.
func (v view) clash() (pair, bool) {
	return first(v.pairs(), v.contradict)
}

// change returns by how much the values of two points can differ.
func (v view) change(a, b int) int {
	return v.Slope * v.distance(a, b)
}

// lowest returns the least value that a point has in any field of a map that is possible.
func (v view) lowest(point int) int {
	value := 0
	for _, s := range v.Stations {
		value = greatest(value, s.Pressure.Low-v.change(point, s.Point))
	}
	return value
}

// highest returns the greatest value that a point has in any field of a map that is possible.
func (v view) highest(point int) int {
	value := api.ChartMost
	for _, s := range v.Stations {
		value = least(value, s.Pressure.High+v.change(point, s.Point))
	}
	return value
}

// extreme returns the field of all least values, or that of all greatest ones.
func (v view) extreme(s side) api.ChartField {
	end := [2]func(point int) int{v.lowest, v.highest}[s]
	f := api.ChartField{Wide: v.Wide}
	for point := range v.points() {
		f.Values = append(f.Values, end(point))
	}
	return f
}

// bounds returns the bounds of all points.
func (v view) bounds() []api.Span {
	lowest, highest := v.extreme(lowSide), v.extreme(highSide)
	var spans []api.Span
	for point := range v.points() {
		spans = append(spans, api.Span{Low: lowest.Values[point], High: highest.Values[point]})
	}
	return spans
}

// drawn returns the drawn field.
func (v view) drawn() api.ChartField {
	f := api.ChartField{Wide: v.Wide}
	for _, b := range v.bounds() {
		f.Values = append(f.Values, (b.Low+b.High)/2)
	}
	return f
}

// fits reports whether a field is one of the map.
func (v view) fits(f api.ChartField) bool {
	if f.Wide != v.Wide || len(f.Values) != v.points() {
		return false
	}
	for _, s := range v.Stations {
		if !between(f.Values[s.Point], s.Pressure.Low, s.Pressure.High) {
			return false
		}
	}
	for point := range v.points() {
		for other := range v.neighbours(point) {
			if difference(f.Values[point], f.Values[other]) > v.Slope {
				return false
			}
		}
	}
	return true
}
