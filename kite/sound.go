package kite

import "isobar/api"

// between reports whether a number lies from low to high.
func between(n, low, high int) bool {
	return low <= n && n <= high
}

// within reports whether a number lies in a span.
func within(n int, s api.Span) bool {
	return between(n, s.Low, s.High)
}

// soundSpan reports whether a span lies from low to high.
func soundSpan(s api.Span, low, high int) bool {
	return low <= s.Low && s.Low <= s.High && s.High <= high
}

// narrow reports whether a span lies from low to high, and is no wider than it may be.
func narrow(s api.Span, low, high, wide int) bool {
	return soundSpan(s, low, high) && s.High-s.Low <= wide
}

// soundLine reports whether a kite is as defined.
func soundLine(k api.KiteLine) bool {
	return soundSpan(k.Wire, 0, api.KiteWire) && soundSpan(k.Angle, 0, 90) && soundSpan(k.Sag, 0, 1000)
}

// soundTrace reports whether a trace is as defined.
func soundTrace(t api.KiteTrace) bool {
	if !soundSpan(t.Base, -api.KiteBase, api.KiteBase) || !between(len(t.Marks), 1, api.KiteMarks) {
		return false
	}
	most := api.KitePressure
	for _, mark := range t.Marks {
		if !between(mark.Pressure, 1, most) || !soundSpan(mark.Temp, -api.KiteCold, api.KiteHot) {
			return false
		}
		most = mark.Pressure - 1
	}
	return true
}

// soundTemps reports whether there is a temperature for each mark of a trace, one that it can have.
func soundTemps(t api.KiteTrace, temps []int) bool {
	if len(temps) != len(t.Marks) {
		return false
	}
	for at, mark := range t.Marks {
		if !within(temps[at], mark.Temp) {
			return false
		}
	}
	return true
}

// soundLayer reports whether a layer of air is as defined.
func soundLayer(l api.KiteLayer) bool {
	return between(l.Deep, 1, api.KiteDeep) &&
		narrow(l.East, -api.KiteWind, api.KiteWind, api.KiteSpread) &&
		narrow(l.North, -api.KiteWind, api.KiteWind, api.KiteSpread)
}

// soundFlight reports whether a flight is as defined.
func soundFlight(f api.KiteFlight) bool {
	if !between(len(f.Layers), 1, api.KiteLayers) {
		return false
	}
	for _, l := range f.Layers {
		if !soundLayer(l) {
			return false
		}
	}
	return narrow(f.Up, api.KiteSlow, api.KiteFast, api.KiteWide) &&
		narrow(f.Down, api.KiteSlow, api.KiteFast, api.KiteWide) &&
		soundSpan(f.Top, 1, len(f.Layers)) &&
		soundSpan(f.East, -api.KiteFar, api.KiteFar) &&
		soundSpan(f.North, -api.KiteFar, api.KiteFar) &&
		soundSpan(f.Minutes, 0, api.KiteFar)
}

// soundTruth reports whether a truth is one of a flight that is as defined.
func soundTruth(f api.KiteFlight, t api.KiteTruth) bool {
	if !within(t.Up, f.Up) || !within(t.Down, f.Down) || !within(t.Top, f.Top) ||
		len(t.East) != len(f.Layers) || len(t.North) != len(f.Layers) {
		return false
	}
	for at, l := range f.Layers {
		if !within(t.East[at], l.East) || !within(t.North[at], l.North) {
			return false
		}
	}
	return true
}
