package watch

import (
	"slices"

	"isobar/api"
)

// office is the place that the inspector leaves first; the station k is the place k + 1.
const office = 0

// late is what an inspector who comes to a station after its Due gives up with.
type late struct{}

// tour is a sure order, and the day on which it ends at the latest.
type tour struct {
	order []int
	ends  int
}

// roads returns the roads on which the inspector travels to each station of an order.
func roads(r api.WatchRound, order []int) []api.Span {
	var out []api.Span
	from := office
	for _, station := range order {
		to := station + 1
		out = append(out, r.Roads[from][to])
		from = to
	}
	return out
}

// shortest returns the least legs with which an order is travelled.
func shortest(r api.WatchRound, order []int) []int {
	var legs []int
	for _, road := range roads(r, order) {
		legs = append(legs, road.Low)
	}
	return legs
}

// longest returns the greatest legs with which an order is travelled.
func longest(r api.WatchRound, order []int) []int {
	var legs []int
	for _, road := range roads(r, order) {
		legs = append(legs, road.High)
	}
	return legs
}

// travel returns on which days the inspector comes to each station of an order with some legs, and on which one the round ends.
func travel(r api.WatchRound, order, legs []int) ([]int, int) {
	var comes []int
	day := r.Start
	for i, station := range order {
		day += legs[i]
		comes = append(comes, day)
		day += r.Stations[station].Stay
	}
	return comes, day
}

// bounds returns between which bounds these days lie: no leg that is longer lets the inspector come earlier anywhere, so that the shortest legs make all least days, and the longest ones all greatest.
func bounds(r api.WatchRound, order []int) ([]api.Span, api.Span) {
	early, start := travel(r, order, shortest(r, order))
	slow, end := travel(r, order, longest(r, order))
	var comes []api.Span
	for i := range order {
		comes = append(comes, api.Span{Low: early[i], High: slow[i]})
	}
	return comes, api.Span{Low: start, High: end}
}

// latest returns the day on which an order ends at the latest, if it is sure, and whether it is.
func latest(r api.WatchRound, order []int) (ends int, sure bool) {
	sure = true
	defer func() {
		if _, gaveUp := recover().(late); gaveUp {
			sure = false
		}
	}()
	comes, end := travel(r, order, longest(r, order))
	for i, station := range order {
		if comes[i] > r.Stations[station].Due {
			panic(late{})
		}
	}
	return end, sure
}

// tours returns all sure orders of a round in lexicographic order; the empty one is always the first. An order that goes on from one that is not sure is not sure either, and is left out.
func tours(r api.WatchRound) []tour {
	var found []tour
	var search func(order []int)
	search = func(order []int) {
		ends, sure := latest(r, order)
		if !sure {
			return
		}
		found = append(found, tour{order, ends})
	stations:
		for station := range r.Stations {
			for _, seen := range order {
				if seen == station {
					continue stations
				}
			}
			search(slices.Concat(order, []int{station}))
		}
	}
	search(nil)
	return found
}

// better reports whether an order is better than another one, if it is not merely the first one of both.
func (t tour) better(other tour) bool {
	if len(t.order) != len(other.order) {
		return len(t.order) > len(other.order)
	}
	return t.ends < other.ends
}

// best returns the best of some things, of which there is one at least; of several that are as good, the first one.
func best[T any](things []T, better func(T, T) bool) T {
	found := things[0]
	for _, thing := range things[1:] {
		if better(thing, found) {
			found = thing
		}
	}
	return found
}
