package cone

import "isobar/api"

// day is how many minutes a day has.
const day = 1440

// between reports whether a number lies from low to high.
func between(n, low, high int) bool {
	return low <= n && n <= high
}

// soundSpan reports whether a span lies from 0 to a number.
func soundSpan(s api.Span, most int) bool {
	return 0 <= s.Low && s.Low <= s.High && s.High <= most
}

// narrow reports whether a span that lies within limits is no wider than orders and times of leaving can be.
func narrow(s api.Span) bool {
	return s.High-s.Low <= api.ConeSpread
}

// soundReport reports whether a report is as defined, in a watch of some stations.
func soundReport(r api.ConeReport, stations int) bool {
	return between(r.Station, 0, stations-1) &&
		between(r.Taken, 0, api.ConeWeek) &&
		between(r.Pressure, 0, api.ConeMost) &&
		soundSpan(r.Delay, api.ConeDelay) &&
		between(r.Urgent, 0, api.ConeDelay) &&
		between(r.Cost, 0, api.ConeCost)
}

// soundLink reports whether a link is as defined, in a watch of some stations.
func soundLink(link api.ConeLink, stations int) bool {
	return between(link.A, 0, stations-1) && between(link.B, 0, stations-1) && link.A != link.B &&
		between(link.Diff, 1, api.ConeMost)
}

// soundSignal reports whether a port of a watch is as defined.
func soundSignal(p api.ConePort) bool {
	return soundSpan(p.Order, api.ConeDelay) && narrow(p.Order) &&
		between(p.Day, 0, api.ConeSight) && between(p.Night, 0, api.ConeSight)
}

// soundRule reports whether the numbers of a watch are as defined, and its lists are not too long.
func soundRule(w api.ConeWatch) bool {
	return between(w.Stations, 1, api.ConeStations) &&
		len(w.Reports) <= api.ConeReports && len(w.Links) <= api.ConeLinks && len(w.Ports) <= api.ConePorts &&
		between(w.Fall, 1, api.ConeMost) && between(w.Window, 1, api.ConeHold) && between(w.Hold, 1, api.ConeHold) &&
		0 <= w.Dawn && w.Dawn <= w.Dusk && w.Dusk <= day
}

// soundWatch reports whether a watch is as defined.
func soundWatch(w api.ConeWatch) bool {
	if !soundRule(w) {
		return false
	}
	for _, r := range w.Reports {
		if !soundReport(r, w.Stations) {
			return false
		}
	}
	for _, link := range w.Links {
		if !soundLink(link, w.Stations) {
			return false
		}
	}
	for _, p := range w.Ports {
		if !soundSignal(p) {
			return false
		}
	}
	return true
}

// soundDelays reports whether there is a delay for each report of a watch that is as defined, one that it can have.
func soundDelays(w api.ConeWatch, delays []int) bool {
	if len(delays) != len(w.Reports) {
		return false
	}
	for at, r := range w.Reports {
		if !between(delays[at], r.Delay.Low, r.Delay.High) {
			return false
		}
	}
	return true
}

// soundPort reports whether a watch has a port.
func soundPort(w api.ConeWatch, port int) bool {
	return between(port, 0, len(w.Ports)-1)
}

// soundOrder reports whether a port that a watch has can have an order.
func soundOrder(w api.ConeWatch, port, order int) bool {
	return between(order, w.Ports[port].Order.Low, w.Ports[port].Order.High)
}

// soundBoat reports whether a boat is as defined.
func soundBoat(b api.ConeBoat) bool {
	return soundSpan(b.Leave, api.ConeEnd) && narrow(b.Leave) && soundSpan(b.Away, api.ConeSight)
}

// soundUrgent reports whether urgent reports are strictly increasing numbers of reports of a watch.
func soundUrgent(w api.ConeWatch, urgent []int) bool {
	least := 0
	for _, report := range urgent {
		if !between(report, least, len(w.Reports)-1) {
			return false
		}
		least = report + 1
	}
	return true
}
