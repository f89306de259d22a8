package score_test

import (
	"iter"
	"math"
	"math/rand/v2"
	"slices"

	"isobar/api"
)

const (
	never  = api.ScoreNever
	may    = api.ScoreMay
	surely = api.ScoreSurely
)

// steps returns all steps.
func steps() []int { return []int{1, 2, 4, 5, 10, 20, 25, 50, 100} }

// span returns a span.
func span(low, high int) api.Span { return api.Span{Low: low, High: high} }

// suiteS returns the chapter's suite s.
func suiteS() api.ScoreSuite {
	return api.ScoreSuite{Classes: 3, Weights: []int{1, 2}, Seen: [][]int{{1, 3}, {6, 2}}}
}

// forecastF returns the chapter's forecast f.
func forecastF() [][][]int {
	return [][][]int{{{70, 20, 10}, {50, 50, 0}}, {{20, 60, 20}, {30, 60, 10}}}
}

// forecastH returns the chapter's forecast h.
func forecastH() [][][]int {
	return [][][]int{{{100, 0, 0}, {50, 50, 0}}, {{0, 0, 100}, {0, 100, 0}}}
}

// tableG returns the chapter's table.
func tableG() api.ScoreTable {
	return api.ScoreTable{Classes: 2, Step: 50, Points: [][]int{{0, 100}, {40, 40}, {100, 0}}}
}

// pointsOf returns the points of parts if a class comes: 10000, less the squares of how far the parts are from those that say just this class.
func pointsOf(parts []int, class int) int {
	n := 10000
	for i, part := range parts {
		if i == class {
			part = 100 - part
		}
		n -= part * part
	}
	return n
}

// lossOf returns what parts lose by a belief.
func lossOf(belief, parts []int) int {
	n := 0
	for i := range belief {
		n += 100 * (belief[i] - parts[i]) * (belief[i] - parts[i])
	}
	return n
}

// allParts returns all parts that are multiples of a step, for some classes, in lexicographic order.
func allParts(classes, step int) [][]int {
	var out [][]int
	for a := 0; a <= 100; a += step {
		for b := 0; a+b <= 100; b += step {
			switch {
			case classes == 3:
				out = append(out, []int{a, b, 100 - a - b})
			case a+b == 100:
				out = append(out, []int{a, b})
			}
		}
	}
	return out
}

// classesOf returns the classes of a set.
func classesOf(set int) []int {
	var out []int
	for class, bit := range []int{1, 2, 4} {
		if set&bit != 0 {
			out = append(out, class)
		}
	}
	return out
}

// truths yields all truths of a suite: the class of each day and district. Each one is written over the one before.
func truths(s api.ScoreSuite) iter.Seq[[][]int] {
	return func(yield func([][]int) bool) {
		truth := make([][]int, len(s.Seen))
		for day, sets := range s.Seen {
			truth[day] = make([]int, len(sets))
		}
		var from func(n int) bool
		from = func(n int) bool {
			if n == len(s.Seen)*len(s.Weights) {
				return yield(truth)
			}
			day, district := n/len(s.Weights), n%len(s.Weights)
			for _, class := range classesOf(s.Seen[day][district]) {
				truth[day][district] = class
				if !from(n + 1) {
					return false
				}
			}
			return true
		}
		from(0)
	}
}

// pointsIn returns the points of a forecast in truth.
func pointsIn(s api.ScoreSuite, forecast [][][]int, truth [][]int) int {
	n := 0
	for day, classes := range truth {
		for district, class := range classes {
			n += s.Weights[district] * pointsOf(forecast[day][district], class)
		}
	}
	return n
}

// endsOf returns the least and the greatest of what a function returns for all truths of a suite.
func endsOf(s api.ScoreSuite, in func(truth [][]int) int) api.Span {
	ends := span(math.MaxInt, math.MinInt)
	for truth := range truths(s) {
		n := in(truth)
		ends.Low, ends.High = min(ends.Low, n), max(ends.High, n)
	}
	return ends
}

// district returns the suite of one district, which counts once.
func district(s api.ScoreSuite, number int) api.ScoreSuite {
	one := api.ScoreSuite{Classes: s.Classes, Weights: []int{1}}
	for _, sets := range s.Seen {
		one.Seen = append(one.Seen, []int{sets[number]})
	}
	return one
}

// everyDay returns the forecast that states the same for each district on each day.
func everyDay(s api.ScoreSuite, parts ...[]int) [][][]int {
	out := make([][][]int, len(s.Seen))
	for day := range out {
		for _, p := range parts {
			out[day] = append(out[day], slices.Clone(p))
		}
	}
	return out
}

// leastSum returns the least sum of parts in a district, over all its truths.
func leastSum(s api.ScoreSuite, number int, parts []int) int {
	one := district(s, number)
	f := everyDay(one, parts)
	return endsOf(one, func(truth [][]int) int { return pointsIn(one, f, truth) }).Low
}

// quickSum returns the least sum of parts in a district, day by day.
func quickSum(s api.ScoreSuite, number int, parts []int) int {
	n := 0
	for _, sets := range s.Seen {
		least := math.MaxInt
		for _, class := range classesOf(sets[number]) {
			least = min(least, pointsOf(parts, class))
		}
		n += least
	}
	return n
}

// climateOf returns the climate of a district, found from the last parts to the first ones.
func climateOf(s api.ScoreSuite, number int, sum func(s api.ScoreSuite, number int, parts []int) int) ([]int, int) {
	var found []int
	most := math.MinInt
	for _, parts := range slices.Backward(allParts(s.Classes, 1)) {
		if n := sum(s, number, parts); n >= most {
			found, most = parts, n
		}
	}
	return found, most
}

// climatesOf returns the forecast of the climates of all districts.
func climatesOf(s api.ScoreSuite) [][][]int {
	var parts [][]int
	for number := range s.Weights {
		p, _ := climateOf(s, number, quickSum)
		parts = append(parts, p)
	}
	return everyDay(s, parts...)
}

// earned returns the sum of what is earned for each class, times the belief's part.
func earned(belief []int, numbers []int) int {
	n := 0
	for class, part := range belief {
		n += part * numbers[class]
	}
	return n
}

// ownTable returns the table that holds the points of layer 6 itself.
func ownTable(classes, step int) api.ScoreTable {
	t := api.ScoreTable{Classes: classes, Step: step}
	for _, parts := range allParts(classes, step) {
		var row []int
		for class := range parts {
			row = append(row, pointsOf(parts, class))
		}
		t.Points = append(t.Points, row)
	}
	return t
}

// gameOf returns the first belief at which a table can be gamed, by which statement, and by how much, or nothing.
func gameOf(t api.ScoreTable) ([]int, []int, int) {
	all := allParts(t.Classes, t.Step)
	for own, belief := range all {
		at := own
		for other := range all {
			was, is := earned(belief, t.Points[at]), earned(belief, t.Points[other])
			if is > was || is == was && other < at {
				at = other
			}
		}
		if more := earned(belief, t.Points[at]) - earned(belief, t.Points[own]); more > 0 {
			return belief, all[at], more
		}
	}
	return nil, nil, 0
}

// payOf returns what a paper pays: as many pence are added to its Base, or taken from it, as there are whole units.
func payOf(p api.ScorePaper, points int) int {
	n, left := p.Base, p.Rate*points
	over := (left%api.ScoreUnit + api.ScoreUnit) % api.ScoreUnit
	n += (left - over) / api.ScoreUnit
	if n < p.Least {
		return p.Least
	}
	return n
}

// mayEarn returns what a statement may earn.
func mayEarn(p api.ScorePaper, sofar int, belief, parts []int) int {
	n := 0
	for class, part := range belief {
		n += part * payOf(p, sofar+pointsOf(parts, class))
	}
	return n
}

// temptOf returns the statement that may earn most, and by how much more than the belief.
func temptOf(p api.ScorePaper, sofar int, belief []int, step int) ([]int, int) {
	var found []int
	most := math.MinInt
	for _, parts := range slices.Backward(allParts(len(belief), step)) {
		if n := mayEarn(p, sofar, belief, parts); n >= most {
			found, most = parts, n
		}
	}
	return found, most - mayEarn(p, sofar, belief, belief)
}

// wrongParts returns lists that are no parts.
func wrongParts() [][]int {
	return [][]int{
		nil, {}, {100}, {25, 25, 25, 25}, {100, 0, 0, 0},
		{50, 49}, {50, 51}, {0, 0}, {100, 100}, {-1, 101}, {101, -1}, {-50, 150},
		{33, 33, 33}, {34, 34, 33}, {0, 0, 0}, {101, 0, -1}, {-1, 1, 100}, {100, 1, -1}, {50, -10, 60},
		{math.MaxInt, math.MinInt, 101}, {math.MinInt, math.MinInt, 100}, {math.MaxInt, math.MaxInt, 102},
	}
}

// copied returns a suite that shares no memory with another one.
func copied(s api.ScoreSuite) api.ScoreSuite {
	s.Weights, s.Seen = slices.Clone(s.Weights), slices.Clone(s.Seen)
	for day := range s.Seen {
		s.Seen[day] = slices.Clone(s.Seen[day])
	}
	return s
}

// dicer makes random arguments, the same ones each time.
type dicer struct{ *rand.Rand }

// dice returns a dicer.
func dice(seed uint64) dicer { return dicer{rand.New(rand.NewPCG(seed, 6))} }

// from returns a number from low to high.
func (d dicer) from(low, high int) int { return low + d.IntN(high-low+1) }

// among returns one of some numbers.
func (d dicer) among(numbers ...int) int { return numbers[d.IntN(len(numbers))] }

// parts returns random parts for some classes.
func (d dicer) parts(classes int) []int {
	if d.IntN(3) == 0 {
		all := allParts(classes, d.among(10, 20, 50, 100))
		return all[d.IntN(len(all))]
	}
	a := d.from(0, 100)
	if classes == 2 {
		return []int{a, 100 - a}
	}
	b := d.from(0, 100-a)
	return []int{a, b, 100 - a - b}
}

// suite returns a random suite of at most so many days and districts.
func (d dicer) suite(days, districts int) api.ScoreSuite {
	s := api.ScoreSuite{Classes: d.from(2, 3)}
	for range d.from(1, districts) {
		s.Weights = append(s.Weights, d.among(0, 1, 2, d.from(0, 100), 100))
	}
	for range max(d.from(0, days), d.from(0, days)) {
		var sets []int
		for range s.Weights {
			sets = append(sets, d.from(1, 1<<s.Classes-1))
		}
		s.Seen = append(s.Seen, sets)
	}
	return s
}

// forecast returns a random forecast of a suite.
func (d dicer) forecast(s api.ScoreSuite) [][][]int {
	var out [][][]int
	for range s.Seen {
		var day [][]int
		for range s.Weights {
			day = append(day, d.parts(s.Classes))
		}
		out = append(out, day)
	}
	return out
}

// truth returns a random truth of a suite.
func (d dicer) truth(s api.ScoreSuite) [][]int {
	var out [][]int
	for _, sets := range s.Seen {
		var classes []int
		for _, set := range sets {
			classes = append(classes, d.among(classesOf(set)...))
		}
		out = append(out, classes)
	}
	return out
}

// narrower returns a suite of which some sets have lost classes.
func (d dicer) narrower(s api.ScoreSuite) api.ScoreSuite {
	s = copied(s)
	for _, sets := range s.Seen {
		for i, set := range sets {
			if less := set & d.from(1, 7); less != 0 && d.IntN(2) == 0 {
				sets[i] = less
			}
		}
	}
	return s
}

// exactly returns the suite of which it was seen just what is true.
func exactly(s api.ScoreSuite, truth [][]int) api.ScoreSuite {
	s = copied(s)
	for day, classes := range truth {
		for number, class := range classes {
			s.Seen[day][number] = 1 << class
		}
	}
	return s
}

// asItCame returns the forecast by which each day is stated as it came.
func asItCame(s api.ScoreSuite, truth [][]int) [][][]int {
	var out [][][]int
	for _, classes := range truth {
		var day [][]int
		for _, class := range classes {
			parts := make([]int, s.Classes)
			parts[class] = 100
			day = append(day, parts)
		}
		out = append(out, day)
	}
	return out
}

// paper returns a random paper.
func (d dicer) paper() api.ScorePaper {
	return api.ScorePaper{
		Base:  d.among(0, 100, d.from(0, 1000), d.from(0, 100000), 100000),
		Rate:  d.among(0, 1, 100, d.from(0, 1000), 1000),
		Least: d.among(0, 100, d.from(0, 1000), d.from(0, 100000)),
	}
}

// sofar returns some points so far.
func (d dicer) sofar() int {
	return d.among(0, d.from(-20000, 20000), d.from(-1000000, 1000000), d.from(-99990000, 99990000), -99990000, 99990000)
}
