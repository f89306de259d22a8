// Package glass is layer 1, the instruments of a station: its barometer and the index of that, its thermometers and its clock, and sheets of readings.
package glass

import "isobar/api"

// Check returns ErrArg for a station that is not as defined, or OK.
func Check(s api.GlassStation) api.Errno {
	if !soundStation(s) {
		return api.ErrArg
	}
	return api.OK
}

// Index returns the bounds of the index of a day.
func Index(s api.GlassStation, day int) (api.Span, api.Errno) {
	if !soundStation(s) || !soundDay(day) {
		return api.Span{}, api.ErrArg
	}
	v := look(s)
	if !v.agreed() {
		return api.Span{}, api.ErrRule
	}
	return v.bounds(day), api.OK
}

// Clash returns the numbers of the first two comparisons that contradict each other, the lesser one first; ErrNone if no two do.
func Clash(s api.GlassStation) (int, int, api.Errno) {
	if !soundStation(s) {
		return 0, 0, api.ErrArg
	}
	one, other, found := look(s).clash()
	if !found {
		return 0, 0, api.ErrNone
	}
	return one, other, api.OK
}

// Due returns the first day, from a day on, on which the bounds of the index are further apart than a width; ErrNone if there is none.
func Due(s api.GlassStation, from, width int) (int, api.Errno) {
	if !soundStation(s) || !soundDay(from) || !between(width, 0, 2*api.GlassIndex) {
		return 0, api.ErrArg
	}
	v := look(s)
	if !v.agreed() {
		return 0, api.ErrRule
	}
	day, found := v.wider(from, width)
	if !found {
		return 0, api.ErrNone
	}
	return day, api.OK
}

// Play returns the pressures and the humidity of a reading in truth.
func Play(s api.GlassStation, r api.GlassReading, t api.GlassTruth) (api.GlassWeather, api.Errno) {
	if !soundStation(s) || !soundReading(r) {
		return api.GlassWeather{}, api.ErrArg
	}
	v := look(s)
	if !v.agreed() {
		return api.GlassWeather{}, api.ErrRule
	}
	if !v.allows(r, t) {
		return api.GlassWeather{}, api.ErrArg
	}
	return weather(r.Mercury, truth{t}), api.OK
}

// Know returns what is known of a reading: between which bounds the pressures and the humidity lie.
func Know(s api.GlassStation, r api.GlassReading) (api.GlassKnown, api.Errno) {
	if !soundStation(s) || !soundReading(r) {
		return api.GlassKnown{}, api.ErrArg
	}
	v := look(s)
	if !v.agreed() {
		return api.GlassKnown{}, api.ErrRule
	}
	return v.known(r), api.OK
}

// Rise returns by how much the mercury can have risen, at least and at most, from the reading a to the reading b.
func Rise(s api.GlassStation, a, b api.GlassReading) (api.Span, api.Errno) {
	if !soundStation(s) || !soundReading(a) || !soundReading(b) {
		return api.Span{}, api.ErrArg
	}
	v := look(s)
	if !v.agreed() {
		return api.Span{}, api.ErrRule
	}
	return v.rise(a, b), api.OK
}

// When returns the minutes of a reading as spans, in increasing order, between two of which at least one minute is missing.
func When(s api.GlassStation, r api.GlassReading) ([]api.Span, api.Errno) {
	if !soundStation(s) || !soundReading(r) {
		return nil, api.ErrArg
	}
	return minutes(s, r), api.OK
}

// Print returns the text of a sheet.
func Print(l []api.GlassReading) (string, api.Errno) {
	if e := sheetError(l); e != api.OK {
		return "", e
	}
	lines := ""
	for _, r := range l {
		lines += line(r)
	}
	return lines + ending(lines), api.OK
}

// Read returns the readings of a text: ErrText if it is not the text of a sheet, or has not the right CHECK.
func Read(text string) ([]api.GlassReading, api.Errno) {
	if len(text) > api.GlassText {
		return nil, api.ErrLong
	}
	l, e := readings(text)
	if e != api.OK {
		return nil, e
	}
	if e := sheetError(l); e != api.OK {
		return nil, e
	}
	return l, api.OK
}
