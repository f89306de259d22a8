package cone

import (
	"iter"
	"slices"

	"isobar/api"
)

// looked is a watch with its alarms, which do not depend on when reports come.
type looked struct {
	api.ConeWatch
	alarm map[api.ConeAlarm]bool
}

// look returns a watch with its alarms.
func look(w api.ConeWatch) looked {
	l := looked{ConeWatch: w, alarm: map[api.ConeAlarm]bool{}}
	for pair := range l.pairs() {
		one, other := l.Reports[pair.One], l.Reports[pair.Other]
		if apart(one.Taken, other.Taken) <= l.Window && (l.tells(one, other) || l.tells(other, one)) {
			l.alarm[pair] = true
		}
	}
	return l
}

// tells reports whether two reports that were taken close enough are an alarm in this order: a fall of the pressure of a station, or a difference along a link.
func (l looked) tells(one, other api.ConeReport) bool {
	if one.Station == other.Station {
		return one.Taken < other.Taken && one.Pressure-other.Pressure >= l.Fall
	}
	_, found := first(slices.Values(l.Links), func(link api.ConeLink) bool {
		return link.A == one.Station && link.B == other.Station && apart(one.Pressure, other.Pressure) >= link.Diff
	})
	return found
}

// pairs yields all two reports, the lesser number first, in lexicographic order.
func (l looked) pairs() iter.Seq[api.ConeAlarm] {
	return func(yield func(api.ConeAlarm) bool) {
		for one := range l.Reports {
			for other := one + 1; other < len(l.Reports); other++ {
				if !yield(api.ConeAlarm{One: one, Other: other}) {
					return
				}
			}
		}
	}
}

// alarms yields the alarms in lexicographic order.
func (l looked) alarms() iter.Seq[api.ConeAlarm] {
	return func(yield func(api.ConeAlarm) bool) {
		for pair := range l.pairs() {
			if l.alarm[pair] && !yield(pair) {
				return
			}
		}
	}
}

// apart returns by how much two numbers differ.
func apart(a, b int) int {
	return max(a-b, b-a)
}

// first returns the first of some things for which something holds, and whether there is one.
func first[T any](things iter.Seq[T], holds func(T) bool) (T, bool) {
	for thing := range things {
		if holds(thing) {
			return thing, true
		}
	}
	var nothing T
	return nothing, false
}
