package chart_test

import (
	"iter"
	"math/rand/v2"
	"slices"

	"isobar/api"
)

// span returns a span.
func span(low, high int) api.Span { return api.Span{Low: low, High: high} }

// at returns a station.
func at(point, low, high int) api.ChartStation {
	return api.ChartStation{Point: point, Pressure: span(low, high)}
}

// mapM returns the chapter's map m, with some stations more.
func mapM(more ...api.ChartStation) api.ChartMap {
	return api.ChartMap{Wide: 4, Rows: 3, Slope: 100, Stations: append([]api.ChartStation{at(0, 76000, 76010), at(5, 75850, 75870), at(11, 76030, 76050)}, more...)}
}

// mapN returns the chapter's map n.
func mapN() api.ChartMap {
	return api.ChartMap{Wide: 3, Rows: 3, Slope: 100, Stations: []api.ChartStation{at(4, 75800, 75810), at(0, 75950, 75960), at(2, 75950, 75960), at(6, 75950, 75960), at(8, 75950, 75960)}}
}

// torn returns a map that is not possible.
func torn() api.ChartMap { return mapM(at(0, 76071, 76080)) }

// field returns a field.
func field(wide int, values ...int) api.ChartField {
	return api.ChartField{Wide: wide, Values: values}
}

// drawnM returns the drawn field of the chapter's map m.
func drawnM() api.ChartField {
	return field(4, 76005, 75935, 75935, 76000, 75935, 75860, 75900, 76000, 75935, 75900, 76000, 76040)
}

// exact returns the map of which a field of at most 12 points, whose neighbours differ by at most 5000, is the only one.
func exact(f api.ChartField) api.ChartMap {
	m := api.ChartMap{Wide: f.Wide, Rows: len(f.Values) / f.Wide, Slope: 5000}
	for point, value := range f.Values {
		m.Stations = append(m.Stations, at(point, value, value))
	}
	return m
}

// same reports whether two fields are equal.
func same(a, b api.ChartField) bool { return a.Wide == b.Wide && slices.Equal(a.Values, b.Values) }

// isNone reports whether a field is the zero value.
func isNone(f api.ChartField) bool { return f.Wide == 0 && len(f.Values) == 0 }

// copied returns a map that shares no memory with another one.
func copied(m api.ChartMap) api.ChartMap {
	m.Stations = slices.Clone(m.Stations)
	return m
}

// with returns a map with a station more.
func with(m api.ChartMap, s api.ChartStation) api.ChartMap {
	m = copied(m)
	m.Stations = append(m.Stations, s)
	return m
}

// apart returns the distance of two points.
func apart(wide, a, b int) int {
	rows, columns := a/wide-b/wide, a%wide-b%wide
	return max(rows, -rows) + max(columns, -columns)
}

// cellsOf returns all cells, the points of each one clockwise from the upper left one.
func cellsOf(wide, rows int) [][4]int {
	var out [][4]int
	for row := 1; row < rows; row++ {
		for column := 1; column < wide; column++ {
			above, below := (row-1)*wide+column, row*wide+column
			out = append(out, [4]int{above - 1, above, below, below - 1})
		}
	}
	return out
}

// isField reports whether a field is one of a map, as the chapter says.
func isField(m api.ChartMap, f api.ChartField) bool {
	if f.Wide != m.Wide || len(f.Values) != m.Wide*m.Rows {
		return false
	}
	for a, x := range f.Values {
		for b, y := range f.Values {
			if apart(m.Wide, a, b) == 1 && x-y > m.Slope {
				return false
			}
		}
		if x < 0 || x > 99999 {
			return false
		}
	}
	for _, s := range m.Stations {
		if f.Values[s.Point] < s.Pressure.Low || f.Values[s.Point] > s.Pressure.High {
			return false
		}
	}
	return true
}

// allFields yields all fields of a map that has a station, all in the same memory: it tries the values of the first station, and goes from neighbour to neighbour.
func allFields(m api.ChartMap) iter.Seq[api.ChartField] {
	points, parents := []int{m.Stations[0].Point}, []int{-1}
	for i := 0; i < len(points); i++ {
		for next := range m.Wide * m.Rows {
			if apart(m.Wide, points[i], next) == 1 && !slices.Contains(points, next) {
				points, parents = append(points, next), append(parents, points[i])
			}
		}
	}
	limits := make([]api.Span, m.Wide*m.Rows)
	for point := range limits {
		limits[point] = span(0, 99999)
		for _, s := range m.Stations {
			if s.Point == point {
				limits[point] = span(max(limits[point].Low, s.Pressure.Low), min(limits[point].High, s.Pressure.High))
			}
		}
	}
	values := make([]int, len(limits))
	return func(yield func(api.ChartField) bool) {
		var fill func(i int) bool
		fill = func(i int) bool {
			if i == len(points) {
				return yield(field(m.Wide, values...))
			}
			point := points[i]
			tried := limits[point]
			if i > 0 {
				middle := values[parents[i]]
				tried = span(max(tried.Low, middle-m.Slope), min(tried.High, middle+m.Slope))
			}
		values:
			for value := tried.Low; value <= tried.High; value++ {
				for _, before := range points[:i] {
					far := value - values[before]
					if apart(m.Wide, point, before) == 1 && max(far, -far) > m.Slope {
						continue values
					}
				}
				values[point] = value
				if !fill(i + 1) {
					return false
				}
			}
			return true
		}
		fill(0)
	}
}

// narrowed returns between which bounds the values of a map's points lie if they are narrowed from neighbour to neighbour until nothing changes, and whether there are any.
func narrowed(m api.ChartMap) ([]api.Span, bool) {
	spans := slices.Repeat([]api.Span{span(0, 99999)}, m.Wide*m.Rows)
	for _, s := range m.Stations {
		b := &spans[s.Point]
		*b = span(max(b.Low, s.Pressure.Low), min(b.High, s.Pressure.High))
	}
	for changed := true; changed; {
		changed = false
		for a := range spans {
			for b := range spans {
				if apart(m.Wide, a, b) != 1 {
					continue
				}
				next := span(max(spans[a].Low, spans[b].Low-m.Slope), min(spans[a].High, spans[b].High+m.Slope))
				if next.Low > next.High {
					return nil, false
				}
				if next != spans[a] {
					spans[a], changed = next, true
				}
			}
		}
	}
	for _, b := range spans {
		if b.Low > b.High {
			return nil, false
		}
	}
	return spans, true
}

// lies reports whether a point lies in a closed low, or in a closed high, of a field: it spreads from the edge over all points on the side until nothing changes.
func lies(f api.ChartField, point, level int, high bool) bool {
	rows := len(f.Values) / f.Wide
	on := func(p int) bool { return (f.Values[p] >= level) == high }
	open := make([]bool, len(f.Values))
	for p := range f.Values {
		row, column := p/f.Wide, p%f.Wide
		open[p] = on(p) && (row == 0 || row == rows-1 || column == 0 || column == f.Wide-1)
	}
	for changed := true; changed; {
		changed = false
		for _, c := range cellsOf(f.Wide, rows) {
			for _, a := range c {
				for _, b := range c {
					connected := !high || apart(f.Wide, a, b) == 1
					if open[a] && !open[b] && on(b) && connected {
						open[b], changed = true, true
					}
				}
			}
		}
	}
	return on(point) && !open[point]
}

// dicer is numbers that look like chance but are the same in each run.
type dicer struct {
	*rand.Rand
}

// dice returns a dicer.
func dice(seed uint64) dicer { return dicer{rand.New(rand.NewPCG(seed, 3))} }

// from returns a number from low to high.
func (d dicer) from(low, high int) int { return low + d.IntN(high-low+1) }

// among returns one of some numbers.
func (d dicer) among(numbers ...int) int { return numbers[d.IntN(len(numbers))] }

// anyTruth returns a field of some size whose neighbours differ by at most slope, and whose values lie around a number.
func (d dicer) anyTruth(wide, rows, slope, around int) api.ChartField {
	rough := make([]int, wide*rows)
	for point := range rough {
		rough[point] = max(0, min(99999, around+d.from(-3*slope-1, 3*slope+1)))
	}
	f := field(wide)
	for point := range rough {
		value := 99999
		for other, top := range rough {
			value = min(value, top+slope*apart(wide, point, other))
		}
		f.Values = append(f.Values, value)
	}
	return f
}

// observed returns a map of a field, with some stations whose spans are wide at most.
func (d dicer) observed(f api.ChartField, slope, stations, wide int) api.ChartMap {
	m := api.ChartMap{Wide: f.Wide, Rows: len(f.Values) / f.Wide, Slope: slope}
	for range stations {
		point := d.IntN(len(f.Values))
		low, high := f.Values[point]-d.from(0, wide), f.Values[point]+d.from(0, wide)
		m.Stations = append(m.Stations, at(point, max(0, low), min(99999, high)))
	}
	return m
}

// spoil changes one of a map's stations, if it has any, so that it may contradict others.
func (d dicer) spoil(m *api.ChartMap, by int) {
	if len(m.Stations) > 0 {
		p := &m.Stations[d.IntN(len(m.Stations))].Pressure
		p.Low = max(0, min(99999, p.Low+d.from(-by, by)))
		p.High = min(99999, p.Low+d.from(0, by))
	}
}

// anyMap returns a map of any size, which often is possible.
func (d dicer) anyMap() api.ChartMap {
	slope := d.among(0, 1, 2, 10, 100, 1000, 4999, 5000)
	f := d.anyTruth(d.from(1, 6), d.from(1, 5), slope, d.among(0, 50, 50000, 75900, 99990, 99999))
	m := d.observed(f, slope, d.from(0, 12), d.among(0, 1, 5, 50, 1000))
	if d.IntN(4) == 0 {
		d.spoil(&m, 2*slope+2)
	}
	return m
}

// smallMap returns a map that has a station, and not too many fields to go through all of them.
func (d dicer) smallMap() api.ChartMap {
	slope := d.among(0, 1, 1, 1, 1, 2)
	size := [][2]int{{1, 1}, {1, 4}, {5, 1}, {2, 2}, {3, 2}, {3, 3}, {3, 3}, {3, 3}, {3, 3}, {4, 3}, {3, 4}}[d.IntN(11)]
	around := d.among(0, 1, 3, 75900, 99998, 99999)
	f := d.anyTruth(size[0], size[1], slope, around)
	stations := d.from(1, 6)
	if size[0]*size[1] > 9 || slope > 1 && size[0]*size[1] > 6 {
		stations = d.from(7, 12)
	}
	m := d.observed(f, slope, stations, 1)
	if d.IntN(4) == 0 {
		d.spoil(&m, 2*slope+2)
	}
	return m
}

// anyField returns a field of any size whose values lie close together.
func (d dicer) anyField() api.ChartField {
	f := field(d.from(1, 6))
	base, wide := d.among(0, 500, 75900, 99990), d.from(1, 9)
	for range f.Wide * d.from(1, 5) {
		f.Values = append(f.Values, base+d.from(0, wide))
	}
	return f
}

// fieldOf returns a field of a map that is possible: the values of all points, in any order, are taken from what the others leave.
func (d dicer) fieldOf(m api.ChartMap) api.ChartField {
	m = copied(m)
	f := field(m.Wide, make([]int, m.Wide*m.Rows)...)
	for _, point := range d.Perm(len(f.Values)) {
		spans, _ := narrowed(m)
		b := spans[point]
		value := d.among(b.Low, b.High, d.from(b.Low, b.High))
		f.Values[point] = value
		m.Stations = append(m.Stations, at(point, value, value))
	}
	return f
}

// wrongMaps returns maps that are each wrong in one way.
func wrongMaps() []api.ChartMap {
	var out []api.ChartMap
	for _, change := range []func(*api.ChartMap){
		func(m *api.ChartMap) { m.Wide = 0 },
		func(m *api.ChartMap) { m.Wide = -4 },
		func(m *api.ChartMap) { m.Wide = 7 },
		func(m *api.ChartMap) { m.Rows = 0 },
		func(m *api.ChartMap) { m.Rows = -3 },
		func(m *api.ChartMap) { m.Rows = 6 },
		func(m *api.ChartMap) { m.Slope = -1 },
		func(m *api.ChartMap) { m.Slope = 5001 },
		func(m *api.ChartMap) { m.Stations[0].Point = -1 },
		func(m *api.ChartMap) { m.Stations[2].Point = 12 },
		func(m *api.ChartMap) { m.Rows = 2 },
		func(m *api.ChartMap) { m.Stations[1].Pressure = span(-1, 75870) },
		func(m *api.ChartMap) { m.Stations[2].Pressure = span(76030, 100000) },
		func(m *api.ChartMap) { m.Stations[0].Pressure = span(76001, 76000) },
		func(m *api.ChartMap) { m.Stations[0].Pressure = span(100000, 100000) },
		func(m *api.ChartMap) { m.Stations[0].Pressure = span(-2, -1) },
		func(m *api.ChartMap) { m.Stations = slices.Repeat(m.Stations[:1], 13) },
	} {
		m := mapM()
		change(&m)
		out = append(out, m)
	}
	return out
}

// wrongFields returns fields that are each wrong in one way.
func wrongFields() []api.ChartField {
	return []api.ChartField{
		{}, field(0, 1), field(-1, 1), field(7, 1, 2, 3, 4, 5, 6, 7), field(1), field(4), field(2, 1), field(2, 1, 2, 3), field(4, 1, 2, 3),
		field(1, 1, 2, 3, 4, 5, 6), field(6, make([]int, 36)...), field(6, make([]int, 31)...), field(1, -1), field(1, 100000), field(2, 1, 2, 3, -1), field(2, 100000, 1), field(-2, 1, 2),
	}
}
