package series_test

import (
	"iter"
	"math"
	"math/rand/v2"
	"slices"

	"isobar/api"
)

// span returns a span.
func span(low, high int) api.Span { return api.Span{Low: low, High: high} }

// inside reports whether a span lies within another one.
func inside(s, other api.Span) bool { return other.Low <= s.Low && s.High <= other.High }

// allInside reports whether each of some spans lies within the one of others at its place.
func allInside(spans, others []api.Span) bool {
	return slices.EqualFunc(spans, others, inside)
}

// has reports whether a number lies in a span.
func has(s api.Span, n int) bool { return s.Low <= n && n <= s.High }

// turned returns a span with the signs of its numbers changed.
func turned(s api.Span) api.Span { return span(-s.High, -s.Low) }

// nothing is a span that is none yet.
func nothing() api.Span { return span(math.MaxInt, math.MinInt) }

// wider returns the least span with another number; a span that is none yet has its Low above its High.
func wider(s api.Span, n int) api.Span { return span(min(s.Low, n), max(s.High, n)) }

// lows returns the first numbers of some spans.
func lows(spans []api.Span) []int {
	var out []int
	for _, s := range spans {
		out = append(out, s.Low)
	}
	return out
}

// highs returns the last numbers of some spans.
func highs(spans []api.Span) []int {
	var out []int
	for _, s := range spans {
		out = append(out, s.High)
	}
	return out
}

// read returns a year with a reading.
func read(shelter, low, high int) api.SeriesYear {
	return api.SeriesYear{Shelter: shelter, Read: true, Reading: span(low, high)}
}

// unread returns a year without a reading.
func unread(shelter int) api.SeriesYear { return api.SeriesYear{Shelter: shelter} }

// check returns a comparison.
func check(a, b, low, high int) api.SeriesCheck {
	return api.SeriesCheck{A: a, B: b, Differ: span(low, high)}
}

// suiteOf returns a suite without comparisons.
func suiteOf(shelters, change int, years ...api.SeriesYear) api.SeriesSuite {
	return api.SeriesSuite{Shelters: shelters, Change: change, Years: years}
}

// suiteS returns the chapter's suite s.
func suiteS() api.SeriesSuite {
	return api.SeriesSuite{
		First: 1871, Shelters: 2, Change: 14,
		Years:  []api.SeriesYear{read(0, 90, 92), read(0, 100, 102), unread(0), read(1, 110, 112), read(1, 95, 97)},
		Checks: []api.SeriesCheck{check(0, 1, -8, -4)},
	}
}

// suiteJ returns the chapter's suite j.
func suiteJ() api.SeriesSuite {
	s := suiteS()
	s.Years[4].Reading = span(80, 81)
	return s
}

// with returns a suite with further comparisons.
func with(s api.SeriesSuite, checks ...api.SeriesCheck) api.SeriesSuite {
	s = copied(s)
	s.Checks = append(s.Checks, checks...)
	return s
}

// copied returns a suite that shares no memory with another one.
func copied(s api.SeriesSuite) api.SeriesSuite {
	s.Years, s.Checks = slices.Clone(s.Years), slices.Clone(s.Checks)
	return s
}

// same reports whether two suites are the same.
func same(a, b api.SeriesSuite) bool {
	return a.First == b.First && a.Shelters == b.Shelters && a.Change == b.Change && slices.Equal(a.Years, b.Years) && slices.Equal(a.Checks, b.Checks)
}

// largest returns a suite that has as much of everything as it can have, and the greatest numbers.
func largest() api.SeriesSuite {
	return api.SeriesSuite{
		First: 9999, Shelters: 4, Change: 500,
		Years:  slices.Repeat([]api.SeriesYear{read(3, 1000, 1000), read(0, -1000, 1000)}, 5),
		Checks: slices.Repeat([]api.SeriesCheck{check(0, 3, -400, 400), check(2, 1, 400, 400)}, 3),
	}
}

// truth returns a truth of which the corrections are told first, and then the values.
func truth(shelters int, numbers ...int) api.SeriesTruth {
	return api.SeriesTruth{Shifts: slices.Clone(numbers[:shelters]), Values: slices.Clone(numbers[shelters:])}
}

// fitsOf reports whether something that has the numbers of a truth is one.
func fitsOf(s api.SeriesSuite, t api.SeriesTruth) bool {
	for i, n := range t.Shifts {
		if n < -200 || n > 200 || i == s.Shelters-1 && n != 0 {
			return false
		}
	}
	for i, n := range t.Values {
		if n < -1000 || n > 1000 {
			return false
		}
		if i > 0 && (n > t.Values[i-1]+s.Change || n < t.Values[i-1]-s.Change) {
			return false
		}
		if s.Years[i].Read && !has(s.Years[i].Reading, n-t.Shifts[s.Years[i].Shelter]) {
			return false
		}
	}
	for _, c := range s.Checks {
		if !has(c.Differ, t.Shifts[c.A]-t.Shifts[c.B]) {
			return false
		}
	}
	return true
}

// truths yields all truths of a suite, one after the other. Each one is written over the one before.
func truths(s api.SeriesSuite) iter.Seq[api.SeriesTruth] {
	return func(yield func(api.SeriesTruth) bool) {
		t := api.SeriesTruth{Shifts: make([]int, s.Shelters), Values: make([]int, len(s.Years))}
		var years func(at int) bool
		years = func(at int) bool {
			if at == len(s.Years) {
				return yield(t)
			}
			bounds := span(-1000, 1000)
			if at > 0 {
				bounds = span(max(-1000, t.Values[at-1]-s.Change), min(1000, t.Values[at-1]+s.Change))
			}
			if y := s.Years[at]; y.Read {
				shift := t.Shifts[y.Shelter]
				bounds = span(max(bounds.Low, y.Reading.Low+shift), min(bounds.High, y.Reading.High+shift))
			}
			for n := bounds.Low; n <= bounds.High; n++ {
				t.Values[at] = n
				if !years(at + 1) {
					return false
				}
			}
			return true
		}
		var shifts func(at int) bool
		shifts = func(at int) bool {
			if at == s.Shelters-1 {
				for _, c := range s.Checks {
					if !has(c.Differ, t.Shifts[c.A]-t.Shifts[c.B]) {
						return true
					}
				}
				return years(0)
			}
			for n := -200; n <= 200; n++ {
				t.Shifts[at] = n
				if !shifts(at + 1) {
					return false
				}
			}
			return true
		}
		shifts(0)
	}
}

// looked is what all truths of a suite show: between which bounds corrections, values, and the values of years less those of others lie, and in how many of the truths each year is the warmest.
type looked struct {
	truths         int
	shifts, values []api.Span
	above          [][]api.Span
	warmest        []int
	normals        map[[2]int]api.Span
	frosts         map[int]api.Span
}

// floor returns a number divided by one that is greater than 0, rounded down.
func floor(n, by int) int { return int(math.Floor(float64(n) / float64(by))) }

// lookAt goes through all truths of a suite. It counts years that are no warmer than some levels.
func lookAt(s api.SeriesSuite, levels ...int) looked {
	n := len(s.Years)
	out := looked{
		shifts: slices.Repeat([]api.Span{nothing()}, s.Shelters), values: slices.Repeat([]api.Span{nothing()}, n),
		warmest: make([]int, n), normals: map[[2]int]api.Span{}, frosts: map[int]api.Span{},
	}
	for range n {
		out.above = append(out.above, slices.Repeat([]api.Span{nothing()}, n))
	}
	add := func(at *api.Span, number int) { *at = wider(*at, number) }
	for t := range truths(s) {
		out.truths++
		for i, shift := range t.Shifts {
			add(&out.shifts[i], shift)
		}
		for i, value := range t.Values {
			add(&out.values[i], value)
			for j, other := range t.Values {
				add(&out.above[i][j], value-other)
			}
			if value == slices.Max(t.Values) {
				out.warmest[i]++
			}
			sum := 0
			for j, more := range t.Values[i:] {
				sum += more
				out.normals[[2]int{i, i + j}] = joined(out.normals, [2]int{i, i + j}, floor(sum, j+1))
			}
		}
		for _, level := range levels {
			cold := 0
			for _, value := range t.Values {
				if value <= level {
					cold++
				}
			}
			out.frosts[level] = joined(out.frosts, level, cold)
		}
	}
	return out
}

// joined returns the least span with what a map has of a key and with another number.
func joined[K comparable](m map[K]api.Span, key K, n int) api.Span {
	if s, known := m[key]; known {
		return wider(s, n)
	}
	return span(n, n)
}

// rule says between which bounds a number of a world, less another one, lies.
type rule struct {
	a, b   int
	differ api.Span
}

// world is the numbers of a suite, in the order of its shelters and then of its years, with the spans in which they lie, and the rules that they have.
type world struct {
	ranges []api.Span
	rules  []rule
}

// worldOf returns the world of a suite.
func worldOf(s api.SeriesSuite) world {
	var w world
	for range s.Shelters - 1 {
		w.ranges = append(w.ranges, span(-200, 200))
	}
	w.ranges = append(w.ranges, span(0, 0))
	for i, y := range s.Years {
		at := s.Shelters + i
		w.ranges = append(w.ranges, span(-1000, 1000))
		if y.Read {
			w.rules = append(w.rules, rule{at, y.Shelter, y.Reading})
		}
		if i > 0 {
			w.rules = append(w.rules, rule{at, at - 1, span(-s.Change, s.Change)})
		}
	}
	for _, c := range s.Checks {
		w.rules = append(w.rules, rule{c.A, c.B, c.Differ})
	}
	return w
}

// movedWorldOf returns the world of a suite with a move at a year, and which number the correction of the other shelter is.
func movedWorldOf(s api.SeriesSuite, year int) (world, int) {
	w := worldOf(s)
	other := len(w.ranges)
	w.ranges = append(w.ranges, span(-200, 200))
	for i, r := range w.rules {
		if at := r.a - s.Shelters; at >= 0 && at < year && r.b == s.Years[year].Shelter {
			w.rules[i].b = other
		}
	}
	return w, other
}

// and returns the world with further rules.
func (w world) and(rules ...rule) world {
	w.rules = slices.Concat(w.rules, rules)
	return w
}

// shrink returns between which bounds the numbers of a world lie, and whether there are any: each rule narrows the spans of its two numbers, until nothing is narrower.
func (w world) shrink() ([]api.Span, bool) {
	spans := slices.Clone(w.ranges)
	for {
		before := slices.Clone(spans)
		for _, r := range w.rules {
			a, b := spans[r.a], spans[r.b]
			spans[r.a] = span(max(a.Low, b.Low+r.differ.Low), min(a.High, b.High+r.differ.High))
			a = spans[r.a]
			spans[r.b] = span(max(b.Low, a.Low-r.differ.High), min(b.High, a.High-r.differ.Low))
			if a.Low > a.High || spans[r.b].Low > spans[r.b].High {
				return nil, false
			}
		}
		if slices.Equal(before, spans) {
			return spans, true
		}
	}
}

// possible reports whether a world has numbers.
func (w world) possible() bool {
	_, can := w.shrink()
	return can
}

// far is more than any two numbers of a world can differ.
const far = 5000

// differ returns between which bounds a number of a world that is possible, less another one, lies.
func (w world) differ(a, b int) api.Span {
	least, most := -far, far
	for low, high := -far, far; low <= high; {
		half := (low + high) / 2
		if w.and(rule{a, b, span(half, far)}).possible() {
			most, low = half, half+1
		} else {
			high = half - 1
		}
	}
	for low, high := -far, far; low <= high; {
		half := (low + high) / 2
		if w.and(rule{a, b, span(-far, half)}).possible() {
			least, high = half, half-1
		} else {
			low = half + 1
		}
	}
	return span(least, most)
}

// clashOf returns the first comparison that contradicts, or -1.
func clashOf(s api.SeriesSuite) int {
	s = firstRead(s, 0)
	for i := range s.Checks {
		part := s
		part.Checks = s.Checks[:i+1]
		if !worldOf(part).possible() {
			return i
		}
	}
	return -1
}

// firstRead returns a suite in which only the first years are read.
func firstRead(s api.SeriesSuite, years int) api.SeriesSuite {
	s = copied(s)
	for i := years; i < len(s.Years); i++ {
		s.Years[i] = unread(s.Years[i].Shelter)
	}
	return s
}

// jumpOf returns the first jump of a suite with which no comparison contradicts, or -1.
func jumpOf(s api.SeriesSuite) int {
	for i := range s.Years {
		if !worldOf(firstRead(s, i+1)).possible() {
			return i
		}
	}
	return -1
}

// dicer makes random arguments, the same ones each time.
type dicer struct{ *rand.Rand }

// dice returns a dicer.
func dice(seed uint64) dicer { return dicer{rand.New(rand.NewPCG(seed, 8))} }

// from returns a number from low to high.
func (d dicer) from(low, high int) int { return low + d.IntN(high-low+1) }

// among returns one of some numbers.
func (d dicer) among(numbers ...int) int { return numbers[d.IntN(len(numbers))] }

// around returns a span with a number, that goes at most so far from it, and lies between a greatest number and the same with its sign.
func (d dicer) around(n, wide, most int) api.Span {
	return span(max(-most, n-d.from(0, wide)), min(most, n+d.from(0, wide)))
}

// planted returns a suite of at most so many shelters, years and comparisons, and a truth of it.
func (d dicer) planted(shelters, years, checks, change, wide int) (api.SeriesSuite, api.SeriesTruth) {
	s := api.SeriesSuite{First: d.from(0, 9999), Shelters: d.from(1, shelters), Change: d.among(change, d.from(0, change))}
	var t api.SeriesTruth
	for range s.Shelters {
		t.Shifts = append(t.Shifts, d.among(-200, 200, 0, d.from(-200, 200), d.from(-20, 20), d.from(-20, 20)))
	}
	t.Shifts[s.Shelters-1] = 0
	value := d.among(-1000, 1000, d.from(-1000, 1000), d.from(-100, 100), d.from(-100, 100))
	shelter := d.IntN(s.Shelters)
	for range d.from(1, years) {
		value = max(-1000, min(1000, value+d.from(-s.Change, s.Change)))
		t.Values = append(t.Values, value)
		if d.IntN(3) == 0 {
			shelter = d.IntN(s.Shelters)
		}
		y := unread(shelter)
		if told := value - t.Shifts[shelter]; has(span(-1000, 1000), told) && d.IntN(5) > 0 {
			y = api.SeriesYear{Shelter: shelter, Read: true, Reading: d.around(told, wide, 1000)}
		}
		s.Years = append(s.Years, y)
	}
	for more := d.from(0, checks); more > 0 && s.Shelters > 1; more-- {
		a, b := d.IntN(s.Shelters), d.IntN(s.Shelters)
		if a != b {
			s.Checks = append(s.Checks, api.SeriesCheck{A: a, B: b, Differ: d.around(t.Shifts[a]-t.Shifts[b], wide, 400)})
		}
	}
	return s, t
}

// pushed returns a span that was pushed by some number, and lies between a greatest number and the same with its sign.
func pushed(s api.Span, by, most int) api.Span {
	by = max(-most-s.Low, min(most-s.High, by))
	return span(s.Low+by, s.High+by)
}

// suite returns a suite of any size; often it is not possible.
func (d dicer) suite(wide int) api.SeriesSuite {
	s, _ := d.planted(4, 10, 6, d.among(500, 50, 20, 10), wide)
	for range d.IntN(3) {
		if i := d.IntN(len(s.Years)); s.Years[i].Read {
			s.Years[i].Reading = pushed(s.Years[i].Reading, d.from(-5*wide, 5*wide), 1000)
		}
		if len(s.Checks) > 0 && d.IntN(3) == 0 {
			i := d.IntN(len(s.Checks))
			s.Checks[i].Differ = pushed(s.Checks[i].Differ, d.from(-5*wide, 5*wide), 400)
		}
	}
	return s
}

// small returns a suite that has not too many truths to go through them all; sometimes it is not possible.
func (d dicer) small() api.SeriesSuite {
	for {
		s, _ := d.planted(d.among(2, 2, 2, 3), 4, 3, d.among(2, 4), 2)
		if !s.Years[0].Read || s.Shelters == 3 && len(s.Checks) == 0 {
			continue
		}
		if i := d.IntN(len(s.Years)); s.Years[i].Read && d.IntN(3) == 0 {
			s.Years[i].Reading = pushed(s.Years[i].Reading, d.from(-6, 6), 1000)
		}
		return s
	}
}
