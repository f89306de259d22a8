package bureau

import (
	"slices"

	"isobar/api"
	"isobar/chart"
	"isobar/cone"
	"isobar/glass"
	"isobar/score"
	"isobar/wire"
)

// act is what a clerk can do with a Bureau.
type act interface {
	// sound reports whether the act is as defined.
	sound(b *Bureau) bool
	// room reports whether there is room for an act that is as defined.
	room(b *Bureau) bool
	// plan returns what does an act for which there is room, nil if it is refused.
	plan(b *Bureau) func()
}

// reading is the act of a station's instruments that are read.
type reading struct {
	station int
	api.GlassReading
}

// telegram is the act of a telegram that came in some copies.
type telegram struct {
	station int
	day     int
	copies  [][]string
}

// shipLog is the act of a ship's log that came.
type shipLog struct {
	number   int
	day      int
	point    int
	pressure api.Span
}

// report is the act of a report that goes to the watch.
type report struct {
	api.ConeReport
}

// statement is the act of parts that are stated.
type statement struct {
	day      int
	district int
	parts    []int
}

// verification is the act by which it is known which classes can have come.
type verification struct {
	day      int
	district int
	set      int
}

func (r reading) sound(b *Bureau) bool {
	if !b.hasStation(r.station) || !b.hasDay(r.Day) {
		return false
	}
	_, e := glass.Know(b.stations[r.station].Glass, r.GlassReading)
	return e == api.OK
}

func (r reading) room(b *Bureau) bool {
	return b.hasRoom(r.Day)
}

func (r reading) plan(b *Bureau) func() {
	known, _ := glass.Know(b.stations[r.station].Glass, r.GlassReading)
	if known.Sea.Low > api.ChartMost {
		return nil
	}
	return b.put(r.Day, b.stations[r.station].Point, span(known.Sea.Low, min(known.Sea.High, api.ChartMost)))
}

func (t telegram) sound(b *Bureau) bool {
	if !b.hasStation(t.station) || !b.hasDay(t.day) || !between(len(t.copies), 1, api.WireCopies) {
		return false
	}
	// Whether a copy is as defined does not depend on the message.
	var message []int
	for _, field := range b.code.Fields {
		message = append(message, field.Low)
	}
	for _, groups := range t.copies {
		if _, e := wire.Can(b.code, message, groups); e != api.OK {
			return false
		}
	}
	return true
}

func (t telegram) room(b *Bureau) bool {
	return b.hasRoom(t.day)
}

func (t telegram) plan(b *Bureau) func() {
	messages, e := wire.Could(b.code, t.copies)
	if e != api.OK {
		return nil
	}
	// The messages are in order, so that the first readings are.
	pressure := span(messages[0][0], messages[len(messages)-1][0])
	cost, _ := wire.Cost(b.tariff, len(t.copies[0]), len(t.copies))
	return both(b.put(t.day, b.stations[t.station].Point, pressure), func() { b.cost += cost })
}

func (l shipLog) sound(b *Bureau) bool {
	return between(l.number, 0, api.BureauShips) && b.hasDay(l.day) &&
		chart.Check(with(b.blank, l.point, l.pressure)) == api.OK
}

func (l shipLog) room(b *Bureau) bool {
	return b.hasRoom(l.day)
}

func (l shipLog) plan(b *Bureau) func() {
	d := &b.week[l.day]
	if slices.Contains(d.ships, l.number) {
		return nil
	}
	return both(b.put(l.day, l.point, l.pressure), func() { d.ships = append(d.ships, l.number) })
}

func (r report) sound(b *Bureau) bool {
	w := b.watch
	w.Reports = []api.ConeReport{r.ConeReport}
	return cone.Check(w) == api.OK
}

func (r report) room(b *Bureau) bool {
	return len(b.watch.Reports) < api.ConeReports
}

func (r report) plan(b *Bureau) func() {
	return func() { b.watch.Reports = append(b.watch.Reports, r.ConeReport) }
}

func (s statement) sound(b *Bureau) bool {
	_, e := score.Gain(s.parts, 0)
	return b.hasDay(s.day) && b.hasDistrict(s.district) && len(s.parts) == b.classes && e == api.OK
}

func (s statement) room(b *Bureau) bool {
	return len(b.week[s.day].forecasts[s.district].parts) == 0
}

func (s statement) plan(b *Bureau) func() {
	return func() { b.week[s.day].forecasts[s.district].parts = copied(s.parts) }
}

func (v verification) sound(b *Bureau) bool {
	return b.hasDay(v.day) && b.hasDistrict(v.district) && between(v.set, 1, 1<<b.classes-1)
}

func (v verification) room(b *Bureau) bool {
	return b.week[v.day].forecasts[v.district].came == 0
}

func (v verification) plan(b *Bureau) func() {
	f := &b.week[v.day].forecasts[v.district]
	if len(f.parts) == 0 {
		return nil
	}
	return func() { f.came = v.set }
}

// both returns what does a plan and something else, nil if the plan is refused.
func both(plan, other func()) func() {
	if plan == nil {
		return nil
	}
	return func() {
		plan()
		other()
	}
}
