package cone_test

import (
	"iter"
	"math/rand/v2"
	"slices"

	"isobar/api"
)

const (
	never  = api.ConeNever
	may    = api.ConeMay
	surely = api.ConeSurely
)

// span returns a span.
func span(low, high int) api.Span { return api.Span{Low: low, High: high} }

// report returns a report.
func report(station, taken, pressure int, delay api.Span, urgent, cost int) api.ConeReport {
	return api.ConeReport{Station: station, Taken: taken, Pressure: pressure, Delay: delay, Urgent: urgent, Cost: cost}
}

// boat returns a boat.
func boat(leave, away api.Span) api.ConeBoat { return api.ConeBoat{Leave: leave, Away: away} }

// watchW returns the chapter's watch w.
func watchW() api.ConeWatch {
	return api.ConeWatch{
		Stations: 2, Fall: 300, Window: 360, Hold: 600, Dawn: 360, Dusk: 1080,
		Reports: []api.ConeReport{
			report(0, 480, 75500, span(20, 60), 10, 5),
			report(0, 780, 75250, span(30, 90), 15, 6),
			report(1, 760, 74980, span(40, 200), 20, 9),
			report(0, 840, 75150, span(10, 50), 10, 4),
		},
		Links: []api.ConeLink{{A: 0, B: 1, Diff: 500}},
		Ports: []api.ConePort{{Order: span(15, 45), Day: 8000, Night: 3000}},
	}
}

// delaysW returns delays of the chapter's watch w.
func delaysW() []int { return []int{40, 60, 150, 20} }

// copied returns a watch that shares no memory with another one.
func copied(w api.ConeWatch) api.ConeWatch {
	w.Reports, w.Links, w.Ports = slices.Clone(w.Reports), slices.Clone(w.Links), slices.Clone(w.Ports)
	return w
}

// apart returns by how much two numbers differ.
func apart(a, b int) int {
	if a < b {
		return b - a
	}
	return a - b
}

// isAlarm reports whether two reports are an alarm, as the chapter says.
func isAlarm(w api.ConeWatch, one, other int) bool {
	a, b := w.Reports[one], w.Reports[other]
	if apart(a.Taken, b.Taken) > w.Window {
		return false
	}
	if a.Station == b.Station {
		if a.Taken > b.Taken {
			a, b = b, a
		}
		return a.Taken != b.Taken && b.Pressure <= a.Pressure-w.Fall
	}
	for _, k := range w.Links {
		if (k.A == a.Station && k.B == b.Station || k.A == b.Station && k.B == a.Station) && apart(a.Pressure, b.Pressure) >= k.Diff {
			return true
		}
	}
	return false
}

// alarmsOf returns the alarms of a watch.
func alarmsOf(w api.ConeWatch) []api.ConeAlarm {
	var out []api.ConeAlarm
	for one := range w.Reports {
		for other := range w.Reports {
			if one < other && isAlarm(w, one, other) {
				out = append(out, api.ConeAlarm{One: one, Other: other})
			}
		}
	}
	return out
}

// seesAt reports whether the rule sees a storm at a minute, by some of the alarms, in truth.
func seesAt(w api.ConeWatch, alarms []api.ConeAlarm, delays []int, minute int) bool {
	for _, a := range alarms {
		one, other := w.Reports[a.One], w.Reports[a.Other]
		come := one.Taken+delays[a.One] <= minute && other.Taken+delays[a.Other] <= minute
		if come && (minute-one.Taken < w.Hold || minute-other.Taken < w.Hold) {
			return true
		}
	}
	return false
}

// unseen is later than all minutes of a watch: the first sight where there is none.
const unseen = 1 << 20

// sightIn returns the first sight in truth, which is from one minute to another one, or unseen.
func sightIn(w api.ConeWatch, delays []int, from, to int) int {
	alarms := alarmsOf(w)
	for minute := from; minute <= to; minute++ {
		if seesAt(w, alarms, delays, minute) {
			return minute
		}
	}
	return unseen
}

// lists yields all lists of numbers, one of each span.
func lists(spans []api.Span) iter.Seq[[]int] {
	return func(yield func([]int) bool) {
		list := make([]int, len(spans))
		var from func(at int) bool
		from = func(at int) bool {
			if at == len(spans) {
				return yield(slices.Clone(list))
			}
			for n := spans[at].Low; n <= spans[at].High; n++ {
				list[at] = n
				if !from(at + 1) {
					return false
				}
			}
			return true
		}
		from(0)
	}
}

// delaySpans returns the Delays of all reports.
func delaySpans(w api.ConeWatch) []api.Span {
	var out []api.Span
	for _, r := range w.Reports {
		out = append(out, r.Delay)
	}
	return out
}

// ends returns the least and the greatest delays.
func ends(w api.ConeWatch) (low, high []int) {
	for _, r := range w.Reports {
		low, high = append(low, r.Delay.Low), append(high, r.Delay.High)
	}
	return low, high
}

// isWarned reports whether a boat sees the cone, or the lamps, in truth.
func isWarned(w api.ConeWatch, delays []int, port, order, leave, away int) bool {
	clock, sight := leave, w.Ports[port].Night
	for clock >= 1440 {
		clock -= 1440
	}
	if w.Dawn <= clock && clock < w.Dusk {
		sight = w.Ports[port].Day
	}
	return away <= sight && seesAt(w, alarmsOf(w), delays, leave-order)
}

// hurried returns a watch whose urgent reports come sooner.
func hurried(w api.ConeWatch, urgent []int) api.ConeWatch {
	w = copied(w)
	for _, n := range urgent {
		r := &w.Reports[n]
		if r.Delay.Low > r.Urgent {
			r.Delay.Low = r.Urgent
		}
		if r.Delay.High > r.Urgent {
			r.Delay.High = r.Urgent
		}
	}
	return w
}

// subsets returns all strictly increasing numbers less than some number, in lexicographic order.
func subsets(n int) [][]int {
	var out [][]int
	var from func(list []int, least int)
	from = func(list []int, least int) {
		out = append(out, slices.Clone(list))
		for next := least; next < n; next++ {
			from(append(slices.Clone(list), next), next+1)
		}
	}
	from(nil, 0)
	return out
}

// costOf returns the sum of the Costs of some reports.
func costOf(w api.ConeWatch, urgent []int) int {
	cost := 0
	for _, n := range urgent {
		cost += w.Reports[n].Cost
	}
	return cost
}

// dicer makes random arguments, the same ones each time.
type dicer struct{ *rand.Rand }

// dice returns a dicer.
func dice(seed uint64) dicer { return dicer{rand.New(rand.NewPCG(seed, 5))} }

// from returns a number from low to high.
func (d dicer) from(low, high int) int { return low + d.IntN(high-low+1) }

// among returns one of some numbers.
func (d dicer) among(numbers ...int) int { return numbers[d.IntN(len(numbers))] }

// within returns a span from 0 to most, no wider than some number.
func (d dicer) within(most, wide int) api.Span {
	low := d.from(0, most)
	return span(low, d.from(low, min(most, low+wide)))
}

// of returns a number of a span.
func (d dicer) of(s api.Span) int { return d.from(s.Low, s.High) }

// truth returns a delay for each report.
func (d dicer) truth(w api.ConeWatch) []int {
	var out []int
	for _, r := range w.Reports {
		out = append(out, d.of(r.Delay))
	}
	return out
}

// sizes are how great the numbers of random watches are.
type sizes struct {
	reports, links, start, taken, pressure, delay, delayWide, cost int
	diff, order, orderWide, sight, window, hold, dawn              int
}

// small are the sizes of watches all truths of which can be gone through.
func (d dicer) small() sizes {
	return sizes{
		reports: 5, links: 3, start: d.among(0, 0, 1430, 2870, 10068), taken: 12, pressure: 6, delay: 6, delayWide: 2, cost: 3,
		diff: 4, order: 4, orderWide: 3, sight: 5, window: 10, hold: d.among(5, 14), dawn: 40,
	}
}

// large are the sizes of watches of which some truths are tried.
func (d dicer) large() sizes {
	return sizes{
		reports: 9, links: 8, start: 0, taken: d.among(1000, 4000, 10080), pressure: d.among(800, 99999), delay: d.among(200, 2880), delayWide: d.among(0, 200, 2880), cost: d.among(3, 10000),
		diff: d.among(5, 500, 99999), order: 2880, orderWide: 300, sight: 50000, window: 2880, hold: d.among(100, 600, 2880), dawn: 1440,
	}
}

// watch returns a random watch, which has one port at least.
func (d dicer) watch(z sizes) api.ConeWatch {
	w := api.ConeWatch{
		Stations: d.from(1, 6), Fall: d.from(1, z.diff), Window: d.from(1, z.window), Hold: d.from(1, z.hold), Dawn: d.from(0, z.dawn),
	}
	if z.reports == 5 {
		w.Stations = d.from(1, 3)
	}
	w.Dusk = d.from(w.Dawn, 1440)
	if d.IntN(2) == 0 {
		w.Dusk = d.from(w.Dawn, z.dawn)
	}
	for range max(d.from(0, z.reports), d.from(0, z.reports)) {
		w.Reports = append(w.Reports, report(d.IntN(w.Stations), z.start+d.from(0, z.taken), d.from(0, z.pressure), d.within(z.delay, z.delayWide), d.from(0, z.delay), d.from(0, z.cost)))
	}
	for range max(d.from(0, z.links), d.from(0, z.links)) {
		k := api.ConeLink{A: d.IntN(w.Stations), B: d.IntN(w.Stations), Diff: d.from(1, z.diff)}
		if k.A != k.B {
			w.Links = append(w.Links, k)
		}
	}
	for range d.from(1, 4) {
		w.Ports = append(w.Ports, api.ConePort{Order: d.within(z.order, z.orderWide), Day: d.from(0, z.sight), Night: d.from(0, z.sight)})
	}
	return w
}

// stormy returns a random watch that has an alarm.
func (d dicer) stormy(z sizes) api.ConeWatch {
	for {
		if w := d.watch(z); len(alarmsOf(w)) > 0 {
			return w
		}
	}
}
