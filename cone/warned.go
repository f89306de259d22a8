package cone

import "isobar/api"

// alongside returns a boat that leaves at a minute, and passes so near that it is warned whenever the cone is up.
func alongside(minute int) api.ConeBoat {
	return api.ConeBoat{Leave: api.Span{Low: minute, High: minute}}
}

// reach returns from how far the cone of a port, or its lamps, are seen at a minute.
func (l looked) reach(port, minute int) int {
	if between(minute%day, l.Dawn, l.Dusk-1) {
		return l.Ports[port].Day
	}
	return l.Ports[port].Night
}

// word returns whether a boat is warned.
func (l looked) word(port int, b api.ConeBoat) api.ConeWord {
	some, all := l.known()
	switch {
	case l.surely(all, port, b):
		return api.ConeSurely
	case l.perhaps(some, port, b):
		return api.ConeMay
	}
	return api.ConeNever
}

// looks returns the minutes at which the rule must see a storm, for a cone to be up where a boat leaves.
func (l looked) looks(port int, b api.ConeBoat) api.Span {
	order := l.Ports[port].Order
	return api.Span{Low: b.Leave.Low - order.High, High: b.Leave.High - order.Low}
}

// surely reports whether a boat is warned in all truths, of what the rule sees in all of them.
func (l looked) surely(all sights, port int, b api.ConeBoat) bool {
	_, far := first(minutes(b.Leave), func(leave int) bool {
		return b.Away.High > l.reach(port, leave)
	})
	return !far && all.throughout(l.looks(port, b))
}

// perhaps reports whether a boat is warned in some truth, of what the rule sees in some.
func (l looked) perhaps(some sights, port int, b api.ConeBoat) bool {
	found := false
	order := l.Ports[port].Order
search:
	for minute := range minutes(l.looks(port, b)) {
		if !some.at(minute) {
			continue
		}
		up := api.Span{Low: max(b.Leave.Low, minute+order.Low), High: min(b.Leave.High, minute+order.High)}
		for leave := range minutes(up) {
			if b.Away.Low <= l.reach(port, leave) {
				found = true
				break search
			}
		}
	}
	return found
}
