package glass

import (
	"iter"

	"isobar/api"
)

// view is a station that is looked at: the station, and the bounds of the index of each day that was asked for.
type view struct {
	api.GlassStation
	days map[int]api.Span
}

// look returns the view of a station.
func look(s api.GlassStation) view {
	return view{GlassStation: s, days: map[int]api.Span{}}
}

// change returns by how much the index can change between two days.
func (v view) change(one, other int) int {
	return v.Drift * greatest(one-other, other-one)
}

// contradict reports whether no index fits two comparisons.
func (v view) contradict(a, b api.GlassCheck) bool {
	gap := greatest(a.Index.Low-b.Index.High, b.Index.Low-a.Index.High)
	return gap > v.change(a.Day, b.Day)
}

// clash returns the numbers of the first two comparisons that contradict each other, and whether there are any.
func (v view) clash() (int, int, bool) {
	one, other, found := 0, 0, false
search:
	for i, a := range v.Checks {
		for j, b := range v.Checks[i+1:] {
			if v.contradict(a, b) {
				one, other, found = i, i+1+j, true
				break search
			}
		}
	}
	return one, other, found
}

// agreed reports whether there is an index that fits all comparisons. It is enough to look at pairs: the greatest numbers that the comparisons leave to the days change by Drift at most, and on the day of each comparison they are not below it unless another one contradicts it.
func (v view) agreed() bool {
	_, _, found := v.clash()
	return !found
}

// limits yields for each comparison between which bounds it leaves the index of a day.
func (v view) limits(day int) iter.Seq[api.Span] {
	return func(yield func(api.Span) bool) {
		for _, c := range v.Checks {
			far := v.change(day, c.Day)
			if !yield(api.Span{Low: c.Index.Low - far, High: c.Index.High + far}) {
				return
			}
		}
	}
}

// bounds returns the bounds of the index of a day, if the comparisons agree.
func (v view) bounds(day int) api.Span {
	if b, known := v.days[day]; known {
		return b
	}
	b := api.Span{Low: -api.GlassIndex, High: api.GlassIndex}
	for limit := range v.limits(day) {
		b.Low = greatest(b.Low, limit.Low)
		b.High = least(b.High, limit.High)
	}
	v.days[day] = b
	return b
}

// wider returns the first day, from a day on, on which the bounds of the index are further apart than a width, and whether there is one.
func (v view) wider(from, width int) (int, bool) {
	for ahead := range api.GlassDays - from + 1 {
		b := v.bounds(from + ahead)
		if b.High-b.Low > width {
			return from + ahead, true
		}
	}
	return 0, false
}

// rise returns by how much the mercury can have risen from a reading to another one.
func (v view) rise(a, b api.GlassReading) api.Span {
	before, after := v.bounds(a.Day), v.bounds(b.Day)
	change := v.change(a.Day, b.Day)
	// The mercury rises as the index falls. Every fall between these bounds is one of some index, as the bounds of both days are no further apart than the index can change.
	fall := api.Span{
		Low:  greatest(before.Low-after.High, -change),
		High: least(before.High-after.Low, change),
	}
	misread := api.Span{Low: -2 * v.Read, High: 2 * v.Read}
	lowest, highest := ends(func(e end) int {
		return b.Mercury - a.Mercury + e.of(fall) + e.of(misread)
	})
	return api.Span{Low: lowest, High: highest}
}
