package glass

import "isobar/api"

// between reports whether a number lies from low to high.
func between(n, low, high int) bool {
	return low <= n && n <= high
}

// within reports whether a span is one, and lies from low to high.
func within(s api.Span, low, high int) bool {
	return low <= s.Low && s.Low <= s.High && s.High <= high
}

// inside reports whether a number lies in a span.
func inside(n int, s api.Span) bool {
	return between(n, s.Low, s.High)
}

// soundDay reports whether a day is one of those for which there is an index.
func soundDay(day int) bool {
	return between(day, 0, api.GlassDays)
}

// soundStation reports whether a station is as defined.
func soundStation(s api.GlassStation) bool {
	if len(s.Checks) > api.GlassChecks {
		return false
	}
	for _, c := range s.Checks {
		if !soundDay(c.Day) || !within(c.Index, -api.GlassIndex, api.GlassIndex) {
			return false
		}
	}
	return within(s.Height, 0, api.GlassHeight) &&
		within(s.Gravity, -api.GlassGravity, api.GlassGravity) &&
		between(s.Drift, 0, api.GlassDrift) &&
		between(s.Read, 0, api.GlassRead) &&
		between(s.East, -dayMinutes/2, dayMinutes/2) &&
		between(s.Slip, 0, api.GlassSlip)
}

// soundReading reports whether a reading is as defined.
func soundReading(r api.GlassReading) bool {
	for _, temperature := range [3]api.Span{r.Attached, r.Dry, r.Wet} {
		if !within(temperature, -api.GlassCold, api.GlassHot) {
			return false
		}
	}
	return soundDay(r.Day) &&
		between(r.Minute, 0, dayMinutes-1) &&
		r.Clock >= api.GlassRail && r.Clock <= api.GlassEither &&
		between(r.Mercury, api.GlassLow, api.GlassHigh)
}

// sheetError returns the error of a sheet that is too long, or has a reading that is not as defined.
func sheetError(l []api.GlassReading) api.Errno {
	if len(l) > api.GlassReadings {
		return api.ErrLong
	}
	for _, r := range l {
		if !soundReading(r) {
			return api.ErrArg
		}
	}
	return api.OK
}
