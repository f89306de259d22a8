package glass

import "isobar/api"

// dayMinutes is how many minutes a day has.
const dayMinutes = 1440

// minutes returns the minutes of a reading as spans in increasing order.
func minutes(s api.GlassStation, r api.GlassReading) []api.Span {
	rail := dayMinutes*r.Day + r.Minute
	sun := rail - s.East
	switch r.Clock {
	case api.GlassRail:
		return []api.Span{around(rail, s.Slip)}
	case api.GlassSun:
		return []api.Span{around(sun, s.Slip)}
	}
	first := around(least(rail, sun), s.Slip)
	second := around(greatest(rail, sun), s.Slip)
	if second.Low <= first.High+1 {
		return []api.Span{{Low: first.Low, High: second.High}}
	}
	return []api.Span{first, second}
}

// around returns the minutes that are within a slip of a minute.
func around(minute, slip int) api.Span {
	return api.Span{Low: minute - slip, High: minute + slip}
}
