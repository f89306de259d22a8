package chart

import "isobar/api"

// between reports whether a number lies from low to high.
func between(n, low, high int) bool {
	return low <= n && n <= high
}

// soundMap reports whether a map is as defined.
func soundMap(m api.ChartMap) bool {
	if !between(m.Wide, 1, api.ChartWide) || !between(m.Rows, 1, api.ChartRows) ||
		!between(m.Slope, 0, api.ChartSlope) || len(m.Stations) > api.ChartStations {
		return false
	}
	for _, s := range m.Stations {
		if !soundPoint(m, s.Point) || s.Pressure.Low > s.Pressure.High ||
			!soundValue(s.Pressure.Low) || !soundValue(s.Pressure.High) {
			return false
		}
	}
	return true
}

// soundPoint reports whether a map whose size is as defined has a point.
func soundPoint(m api.ChartMap, point int) bool {
	return between(point, 0, m.Wide*m.Rows-1)
}

// soundValue reports whether a point of a field can have a value.
func soundValue(value int) bool {
	return between(value, 0, api.ChartMost)
}

// soundLevel reports whether a number is a level.
func soundLevel(level int) bool {
	return between(level, 1, api.ChartMost)
}

// soundField reports whether a field is as defined.
func soundField(f api.ChartField) bool {
	if !between(f.Wide, 1, api.ChartWide) || len(f.Values)%f.Wide != 0 ||
		!between(len(f.Values)/f.Wide, 1, api.ChartRows) {
		return false
	}
	for _, value := range f.Values {
		if !soundValue(value) {
			return false
		}
	}
	return true
}
