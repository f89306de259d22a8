package kite_test

import (
	"iter"
	"math"
	"math/rand/v2"
	"slices"

	"isobar/api"
)

// span returns a span.
func span(low, high int) api.Span { return api.Span{Low: low, High: high} }

// inside reports whether a span lies within another one.
func inside(s, other api.Span) bool { return other.Low <= s.Low && s.High <= other.High }

// has reports whether a number lies in a span.
func has(s api.Span, n int) bool { return s.Low <= n && n <= s.High }

// kiteK returns the chapter's kite k.
func kiteK() api.KiteLine {
	return api.KiteLine{Wire: span(1000, 1040), Angle: span(40, 42), Sag: span(20, 50)}
}

// traceT returns the chapter's trace t.
func traceT() api.KiteTrace {
	return api.KiteTrace{Base: span(100, 110), Marks: []api.KiteMark{
		{Pressure: 75000, Temp: span(150, 160)},
		{Pressure: 70000, Temp: span(120, 130)},
		{Pressure: 60000, Temp: span(40, 60)},
	}}
}

// flightF returns the chapter's flight f.
func flightF() api.KiteFlight {
	return api.KiteFlight{
		Layers: []api.KiteLayer{
			{Deep: 600, East: span(1, 3), North: span(0, 1)},
			{Deep: 800, East: span(4, 6), North: span(-2, 0)},
		},
		Up: span(200, 200), Down: span(400, 400), Top: span(1, 2),
		East: span(40, 41), North: span(-7, -6), Minutes: span(0, 20),
	}
}

// truth returns a truth of a flight: its speeds, its top, and the winds to the east and then to the north.
func truth(up, down, top int, winds ...int) api.KiteTruth {
	half := len(winds) / 2
	return api.KiteTruth{Up: up, Down: down, Top: top, East: slices.Clone(winds[:half]), North: slices.Clone(winds[half:])}
}

// flat returns the numbers of a truth, in the order by which truths are compared.
func flat(t api.KiteTruth) []int {
	return slices.Concat([]int{t.Up, t.Down, t.Top}, t.East, t.North)
}

// same reports whether two truths are the same.
func same(a, b api.KiteTruth) bool {
	return a.Up == b.Up && a.Down == b.Down && a.Top == b.Top && slices.Equal(a.East, b.East) && slices.Equal(a.North, b.North)
}

// windsTo returns the winds of a truth to the north, or to the east.
func windsTo(t api.KiteTruth, north bool) []int {
	if north {
		return t.North
	}
	return t.East
}

// sameWinds reports whether the same is known of winds.
func sameWinds(a, b api.KiteWinds) bool {
	return a.Top == b.Top && slices.Equal(a.East, b.East) && slices.Equal(a.North, b.North)
}

// lists yields all lists of a number of each span, in lexicographic order. Each one is written over the one before.
func lists(spans ...api.Span) iter.Seq[[]int] {
	return func(yield func([]int) bool) {
		list := make([]int, len(spans))
		for i, s := range spans {
			list[i] = s.Low
		}
		for {
			if !yield(list) {
				return
			}
			at := len(list) - 1
			for at >= 0 && list[at] == spans[at].High {
				list[at] = spans[at].Low
				at--
			}
			if at < 0 {
				return
			}
			list[at]++
		}
	}
}

// wider returns the least span with another number; a span that is none yet has its Low above its High.
func wider(s api.Span, n int) api.Span { return span(min(s.Low, n), max(s.High, n)) }

// nothing is a span that is none yet.
func nothing() api.Span { return span(math.MaxInt, math.MinInt) }

// climbOf returns the height of a kite.
func climbOf(wire, angle, sag int) int {
	straight := wire - (wire*sag+999)/1000
	return straight * sineOf()[angle] / 10000
}

// sineOf returns the sines of all angles from 0 to 90.
func sineOf() []int {
	return []int{
		0, 174, 348, 523, 697, 872, 1044, 1217, 1390, 1563, 1736, 1906, 2076,
		2247, 2417, 2588, 2754, 2920, 3087, 3253, 3420, 3581, 3742, 3903, 4064, 4226,
		4380, 4535, 4690, 4845, 5000, 5147, 5294, 5441, 5588, 5736, 5874, 6012, 6151,
		6289, 6428, 6556, 6685, 6813, 6942, 7071, 7188, 7306, 7424, 7542, 7660, 7766,
		7872, 7979, 8085, 8192, 8285, 8379, 8472, 8566, 8660, 8740, 8821, 8901, 8982,
		9063, 9129, 9196, 9263, 9330, 9397, 9449, 9501, 9554, 9606, 9659, 9696, 9734,
		9772, 9810, 9848, 9870, 9893, 9916, 9939, 9962, 9969, 9977, 9984, 9992, 10000,
	}
}

// riseOf returns the height of each mark, from the temperatures of all.
func riseOf(t api.KiteTrace, base int, temps []int) []int {
	out := []int{base}
	for i := range temps[1:] {
		a, b := t.Marks[i].Pressure, t.Marks[i+1].Pressure
		out = append(out, out[i]+2927*(a-b)*(temps[i]+temps[i+1]+5464)/(a+b)/1000)
	}
	return out
}

// traceSpans returns the spans of a trace: that of the base, and those of all temperatures.
func traceSpans(t api.KiteTrace) []api.Span {
	out := []api.Span{t.Base}
	for _, m := range t.Marks {
		out = append(out, m.Temp)
	}
	return out
}

// levelsOf returns between which bounds the height of each mark lies, over all truths.
func levelsOf(t api.KiteTrace) []api.Span {
	out := slices.Repeat([]api.Span{nothing()}, len(t.Marks))
	for list := range lists(traceSpans(t)...) {
		for i, n := range riseOf(t, list[0], list[1:]) {
			out[i] = wider(out[i], n)
		}
	}
	return out
}

// minutesIn returns for how many minutes a balloon goes through a layer at a speed.
func minutesIn(deep, speed int) int {
	n := 0
	for ; deep > 0; deep -= speed {
		n++
	}
	return n
}

// landOf returns how far to the east and to the north a balloon comes down in truth, and for how many minutes it flies.
func landOf(f api.KiteFlight, t api.KiteTruth) (int, int, int) {
	east, north, minutes := 0, 0, 0
	for i, l := range f.Layers[:t.Top] {
		for range minutesIn(l.Deep, t.Up) + minutesIn(l.Deep, t.Down) {
			east, north, minutes = east+t.East[i], north+t.North[i], minutes+1
		}
	}
	return east, north, minutes
}

// fitsOf reports whether a truth fits a flight.
func fitsOf(f api.KiteFlight, t api.KiteTruth) bool {
	east, north, minutes := landOf(f, t)
	return has(f.East, east) && has(f.North, north) && has(f.Minutes, minutes)
}

// spansTo returns the spans of the winds of all layers to the north, or to the east.
func spansTo(f api.KiteFlight, north bool) []api.Span {
	var out []api.Span
	for _, l := range f.Layers {
		if north {
			out = append(out, l.North)
		} else {
			out = append(out, l.East)
		}
	}
	return out
}

// truths yields all truths of a flight, in their order. Each one is written over the one before.
func truths(f api.KiteFlight) iter.Seq[api.KiteTruth] {
	return func(yield func(api.KiteTruth) bool) {
		spans := slices.Concat([]api.Span{f.Up, f.Down, f.Top}, spansTo(f, false), spansTo(f, true))
		n := len(f.Layers)
		for list := range lists(spans...) {
			if !yield(api.KiteTruth{Up: list[0], Down: list[1], Top: list[2], East: list[3 : 3+n], North: list[3+n:]}) {
				return
			}
		}
	}
}

// looked is what is known of a flight: the winds, the first truth, and the first truths with each end of each wind; fits is in how many truths.
type looked struct {
	winds api.KiteWinds
	first api.KiteTruth
	shown map[show]api.KiteTruth
	fits  int
}

// show is what Show is asked for.
type show struct {
	layer       int
	north, high bool
}

// shows returns all that Show can be asked for of some layers.
func shows(layers int) []show {
	var out []show
	for layer := range layers {
		out = append(out, show{layer, false, false}, show{layer, false, true}, show{layer, true, false}, show{layer, true, true})
	}
	return out
}

// end returns the end of what is known of the wind that is shown.
func (s show) end(w api.KiteWinds) int {
	bounds := w.East[s.layer]
	if s.north {
		bounds = w.North[s.layer]
	}
	if s.high {
		return bounds.High
	}
	return bounds.Low
}

// copied returns a truth that shares no memory with another one.
func copied(t api.KiteTruth) api.KiteTruth {
	t.East, t.North = slices.Clone(t.East), slices.Clone(t.North)
	return t
}

// noWinds returns what is known before any truth was found.
func noWinds(layers int) api.KiteWinds {
	none := []api.Span{nothing()}
	return api.KiteWinds{Top: nothing(), East: slices.Repeat(none, layers), North: slices.Repeat(none, layers)}
}

// lookAt goes through all truths of a flight.
func lookAt(f api.KiteFlight) looked {
	n := len(f.Layers)
	out := looked{winds: noWinds(n), shown: map[show]api.KiteTruth{}}
	for t := range truths(f) {
		if !fitsOf(f, t) {
			continue
		}
		if out.fits == 0 {
			out.first = copied(t)
		}
		out.fits++
		out.winds.Top = wider(out.winds.Top, t.Top)
		for i := range n {
			out.winds.East[i], out.winds.North[i] = wider(out.winds.East[i], t.East[i]), wider(out.winds.North[i], t.North[i])
		}
	}
	if out.fits == 0 {
		return looked{}
	}
	for _, s := range shows(n) {
		for t := range truths(f) {
			if windsTo(t, s.north)[s.layer] == s.end(out.winds) && fitsOf(f, t) {
				out.shown[s] = copied(t)
				break
			}
		}
	}
	return out
}

// trip is a flight with its speeds and its top, and the winds to the east and to the north with which it ends where it was found.
type trip struct {
	up, down, top int
	winds         [2][][]int
}

// trips returns all trips of a flight on which there are winds, in their order. The winds to the east and those to the north are gone through apart, so that flights of all sizes can be looked at.
func trips(f api.KiteFlight) []trip {
	var out []trip
	for speeds := range lists(f.Up, f.Down, f.Top) {
		p := trip{up: speeds[0], down: speeds[1], top: speeds[2]}
		var times []int
		minutes := 0
		for _, l := range f.Layers[:p.top] {
			times = append(times, minutesIn(l.Deep, p.up)+minutesIn(l.Deep, p.down))
			minutes += times[len(times)-1]
		}
		if !has(f.Minutes, minutes) {
			continue
		}
		for way, found := range []api.Span{f.East, f.North} {
			for list := range lists(spansTo(f, way == 1)...) {
				far := 0
				for i, n := range times {
					far += n * list[i]
				}
				if has(found, far) {
					p.winds[way] = append(p.winds[way], slices.Clone(list))
				}
			}
		}
		if p.winds[0] != nil && p.winds[1] != nil {
			out = append(out, p)
		}
	}
	return out
}

// lookApart returns the same as lookAt, from the trips of a flight.
func lookApart(f api.KiteFlight) looked {
	all := trips(f)
	if len(all) == 0 {
		return looked{}
	}
	n := len(f.Layers)
	out := looked{winds: noWinds(n), shown: map[show]api.KiteTruth{}}
	for _, p := range all {
		out.winds.Top = wider(out.winds.Top, p.top)
		for way, known := range [2][]api.Span{out.winds.East, out.winds.North} {
			for _, list := range p.winds[way] {
				for i, wind := range list {
					known[i] = wider(known[i], wind)
				}
			}
		}
		out.fits += len(p.winds[0]) * len(p.winds[1])
	}
	p := all[0]
	out.first = truth(p.up, p.down, p.top, slices.Concat(p.winds[0][0], p.winds[1][0])...)
	for _, s := range shows(n) {
		out.shown[s] = showApart(all, s, s.end(out.winds))
	}
	return out
}

// showApart returns the first truth of trips with a number as the wind that is shown.
func showApart(all []trip, s show, number int) api.KiteTruth {
	way := 0
	if s.north {
		way = 1
	}
	for _, p := range all {
		first := [2][]int{p.winds[0][0], p.winds[1][0]}
		for _, list := range p.winds[way] {
			if list[s.layer] == number {
				first[way] = list
				return truth(p.up, p.down, p.top, slices.Concat(first[0], first[1])...)
			}
		}
	}
	return api.KiteTruth{}
}

// copyTrace returns a trace that shares no memory with another one.
func copyTrace(t api.KiteTrace) api.KiteTrace {
	t.Marks = slices.Clone(t.Marks)
	return t
}

// copyFlight returns a flight that shares no memory with another one.
func copyFlight(f api.KiteFlight) api.KiteFlight {
	f.Layers = slices.Clone(f.Layers)
	return f
}

// dicer makes random arguments, the same ones each time.
type dicer struct{ *rand.Rand }

// dice returns a dicer.
func dice(seed uint64) dicer { return dicer{rand.New(rand.NewPCG(seed, 7))} }

// from returns a number from low to high.
func (d dicer) from(low, high int) int { return low + d.IntN(high-low+1) }

// among returns one of some numbers.
func (d dicer) among(numbers ...int) int { return numbers[d.IntN(len(numbers))] }

// of returns a number of a span.
func (d dicer) of(s api.Span) int { return d.from(s.Low, s.High) }

// spread returns a span from low to high, that is no wider than it may be.
func (d dicer) spread(low, high, wide int) api.Span {
	a := d.among(low, high, d.from(low, high), d.from(low, high), d.from(low, high), d.from(low, high))
	return span(a, min(high, a+d.IntN(wide+1)))
}

// part returns a span within another one.
func (d dicer) part(s api.Span) api.Span {
	if d.IntN(2) == 0 {
		return s
	}
	a, b := d.of(s), d.of(s)
	return span(min(a, b), max(a, b))
}

// line returns a random kite, the spans of which are no wider than they may be.
func (d dicer) line(wire, angle, sag int) api.KiteLine {
	return api.KiteLine{Wire: d.spread(0, 10000, wire), Angle: d.spread(0, 90, angle), Sag: d.spread(0, 1000, sag)}
}

// trace returns a random trace of at most so many marks, the spans of which are no wider than they may be.
func (d dicer) trace(marks, wide int) api.KiteTrace {
	t := api.KiteTrace{Base: d.spread(-5000, 5000, wide)}
	pressure := d.among(99999, d.from(70000, 78000), d.from(marks, 99999))
	for left := d.from(1, marks); left > 0; left-- {
		t.Marks = append(t.Marks, api.KiteMark{Pressure: pressure, Temp: d.spread(-900, 500, wide)})
		pressure = d.among(pressure-1, max(pressure-d.from(1, 9000), left-1), d.from(left-1, pressure-1))
	}
	return t
}

// flight returns a random flight of at most so many layers, the winds and the speeds of which have spans that are no wider than they may be. What was found mostly is so in some truth.
func (d dicer) flight(layers, spread, wide int) api.KiteFlight {
	f := api.KiteFlight{Up: d.speed(wide), Down: d.speed(wide), East: span(0, 0), North: span(0, 0), Minutes: span(0, 0)}
	calm := d.among(3, 10, 100)
	for range d.from(1, layers) {
		f.Layers = append(f.Layers, api.KiteLayer{
			Deep:  d.among(d.from(1, 400), d.from(1, 1500), d.from(1, 3000), 3000),
			East:  d.spread(-calm, calm, spread),
			North: d.spread(-calm, calm, spread),
		})
	}
	f.Top = d.part(span(1, len(f.Layers)))
	return d.find(f)
}

// speed returns the span of a speed.
func (d dicer) speed(wide int) api.Span {
	return d.spread(d.among(50, 150, 400), d.among(410, 1000), wide)
}

// find returns a flight that was found not far from where it comes down in some truth, or between where it does in two.
func (d dicer) find(f api.KiteFlight) api.KiteFlight {
	off := 0
	if d.IntN(6) == 0 {
		off = d.from(-3, 3)
	}
	f.East, f.North, f.Minutes = nothing(), nothing(), nothing()
	for range d.among(1, 1, 2) {
		east, north, minutes := landOf(f, d.truth(f))
		f.East, f.North, f.Minutes = wider(f.East, east+off), wider(f.North, north+off), wider(f.Minutes, max(minutes+off, 0))
	}
	for _, s := range []*api.Span{&f.East, &f.North, &f.Minutes} {
		s.Low, s.High = s.Low-d.IntN(d.among(1, 2, 3, 12)), s.High+d.IntN(d.among(1, 2, 3, 12))
	}
	f.Minutes.Low = max(f.Minutes.Low, 0)
	if d.IntN(4) == 0 {
		f.Minutes = span(0, 100000)
	}
	return f
}

// truth returns a random truth of a flight.
func (d dicer) truth(f api.KiteFlight) api.KiteTruth {
	t := api.KiteTruth{Up: d.of(f.Up), Down: d.of(f.Down), Top: d.of(f.Top)}
	for _, l := range f.Layers {
		t.East, t.North = append(t.East, d.of(l.East)), append(t.North, d.of(l.North))
	}
	return t
}
