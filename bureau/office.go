package bureau

import (
	"isobar/api"
	"isobar/chart"
	"isobar/score"
)

// need is what must hold before an act, and the error if it does not.
type need struct {
	e     api.Errno
	holds func() bool
}

// perform does an act, if all holds that must, and writes it in the journal.
func (b *Bureau) perform(a act) api.Errno {
	if !b.isOpen() {
		return api.ErrNil
	}
	var do func()
	for _, n := range [4]need{
		{api.ErrArg, func() bool { return a.sound(b) }},
		{api.ErrState, func() bool { return len(b.lines) < api.BureauActs }},
		{api.ErrState, func() bool { return a.room(b) }},
		{api.ErrRule, func() bool {
			do = a.plan(b)
			return do != nil
		}},
	} {
		if !n.holds() {
			return n.e
		}
	}
	do()
	b.lines = append(b.lines, line(a))
	return api.OK
}

// isOpen reports whether Open has returned a Bureau.
func (b *Bureau) isOpen() bool {
	return b != nil && b.opened == b
}

// hasStation reports whether there is a station with a number.
func (b *Bureau) hasStation(number int) bool {
	return between(number, 0, len(b.stations)-1)
}

// hasDay reports whether a number is one of the days.
func (b *Bureau) hasDay(number int) bool {
	return between(number, 0, b.days-1)
}

// hasDistrict reports whether there is a district with a number.
func (b *Bureau) hasDistrict(number int) bool {
	return between(number, 0, len(b.weights)-1)
}

// hasRoom reports whether the map of a day can have a station more.
func (b *Bureau) hasRoom(day int) bool {
	return len(b.week[day].weather.Stations) < api.ChartStations
}

// mapOf returns the map of a day.
func (b *Bureau) mapOf(day int) (api.ChartMap, api.Errno) {
	if !b.isOpen() {
		return api.ChartMap{}, api.ErrNil
	}
	if !b.hasDay(day) {
		return api.ChartMap{}, api.ErrArg
	}
	return b.week[day].weather, api.OK
}

// with returns a map with a station more.
func with(m api.ChartMap, point int, pressure api.Span) api.ChartMap {
	m.Stations = append(copied(m.Stations), api.ChartStation{Point: point, Pressure: pressure})
	return m
}

// put returns what puts a pressure on the map of a day, nil if the map would not be possible then.
func (b *Bureau) put(day, point int, pressure api.Span) func() {
	m := with(b.week[day].weather, point, pressure)
	if _, e := chart.Bounds(m); e != api.OK {
		return nil
	}
	return func() { b.week[day].weather = m }
}

// total returns between which bounds the points of all forecasts lie for which it is known what can have come.
func (b *Bureau) total() api.Span {
	var sum api.Span
	for _, d := range b.week {
		for district, f := range d.forecasts {
			if f.came != 0 {
				points := b.points(district, f)
				sum.Low += points.Low
				sum.High += points.High
			}
		}
	}
	return sum
}

// points returns between which bounds the points of a forecast for a district lie.
func (b *Bureau) points(district int, f forecast) api.Span {
	s := api.ScoreSuite{Classes: b.classes, Weights: []int{b.weights[district]}, Seen: [][]int{{f.came}}}
	points, _ := score.Total(s, [][][]int{{f.parts}})
	return points
}
