package cone

import (
	"iter"
	"slices"

	"isobar/api"
)

// sights are the minutes at which the rule sees a storm: a span for each alarm that is one in time.
type sights []api.Span

// calm is a minute at which no storm is seen.
type calm int

// sights returns what the rule sees, if reports have some delays.
func (l looked) sights(delay func(report int) int) sights {
	var seen sights
	for a := range l.alarms() {
		one, other := l.Reports[a.One], l.Reports[a.Other]
		span := api.Span{
			Low:  max(one.Taken+delay(a.One), other.Taken+delay(a.Other)),
			High: max(one.Taken, other.Taken) + l.Hold - 1,
		}
		if span.Low <= span.High {
			seen = append(seen, span)
		}
	}
	return seen
}

// played returns what the rule sees with a delay for each report.
func (l looked) played(delays []int) sights {
	return l.sights(func(report int) int {
		return delays[report]
	})
}

// soonest returns the least delay of a report.
func (l looked) soonest(report int) int {
	return l.Reports[report].Delay.Low
}

// latest returns the greatest delay of a report.
func (l looked) latest(report int) int {
	return l.Reports[report].Delay.High
}

// known returns what the rule sees in some truth, and what it sees in all truths. A report that comes sooner only adds minutes at which a storm is seen, so that the ends of all delays show both.
func (l looked) known() (some, all sights) {
	var seen [2]sights
	for end, delay := range [2]func(int) int{l.soonest, l.latest} {
		seen[end] = l.sights(delay)
	}
	return seen[0], seen[1]
}

// sight returns the first minute at which a storm is seen, and whether there is one.
func (s sights) sight() (int, bool) {
	if len(s) == 0 {
		return 0, false
	}
	soonest := s[0].Low
	for _, span := range s {
		soonest = min(soonest, span.Low)
	}
	return soonest, true
}

// at reports whether a storm is seen at a minute.
func (s sights) at(minute int) bool {
	_, seen := first(slices.Values(s), func(span api.Span) bool {
		return between(minute, span.Low, span.High)
	})
	return seen
}

// must gives up at a minute at which no storm is seen.
func (s sights) must(minute int) {
	if !s.at(minute) {
		panic(calm(minute))
	}
}

// throughout reports whether a storm is seen at all minutes of a span.
func (s sights) throughout(span api.Span) (seen bool) {
	defer func() {
		if _, gave := recover().(calm); gave {
			seen = false
		}
	}()
	for minute := range minutes(span) {
		s.must(minute)
	}
	return true
}

// minutes yields the minutes of a span.
func minutes(span api.Span) iter.Seq[int] {
	return func(yield func(int) bool) {
		for past := range span.High - span.Low + 1 {
			if !yield(span.Low + past) {
				return
			}
		}
	}
}
