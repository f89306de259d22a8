package low_test

import (
	"iter"
	"math/rand/v2"
	"slices"

	"isobar/api"
	"isobar/low"
)

// span returns a span.
func span(low, high int) api.Span { return api.Span{Low: low, High: high} }

// spot returns a low of a map.
func spot(x, y, depth api.Span) api.LowSpot { return api.LowSpot{X: x, Y: y, Depth: depth} }

// at returns a low of a map of which all is known but how deep it is.
func at(x, y int) api.LowSpot { return spot(span(x, x), span(y, y), span(0, 99999)) }

// anywhere is a low of which nothing is known.
func anywhere() api.LowSpot { return spot(span(0, 100), span(0, 100), span(0, 99999)) }

// chart returns a map.
func chart(hour int, spots ...api.LowSpot) api.LowMap { return api.LowMap{At: hour, Spots: spots} }

// suiteS returns the chapter's suite s.
func suiteS() api.LowSuite {
	return api.LowSuite{Speed: 2, Deepen: 50, Born: 0, Gone: 1, Maps: []api.LowMap{
		chart(0, spot(span(8, 9), span(50, 50), span(74000, 74200)), spot(span(30, 30), span(52, 54), span(75000, 75100))),
		chart(6, spot(span(20, 22), span(50, 52), span(74100, 74300)), spot(span(38, 40), span(54, 56), span(74900, 75000))),
		chart(12, spot(span(31, 33), span(52, 53), span(74200, 74900))),
	}}
}

// truthS returns a truth of the chapter's suite s.
func truthS() api.LowTruth {
	return api.LowTruth{
		Same:  [][]int{{-1, -1}, {0, 1}, {0}},
		X:     [][]int{{8, 30}, {20, 38}, {32}},
		Y:     [][]int{{50, 53}, {50, 54}, {52}},
		Depth: [][]int{{74000, 75050}, {74250, 74900}, {74500}},
	}
}

// torn returns a suite whose map 2 is not possible, though each two maps are.
func torn() api.LowSuite {
	return api.LowSuite{Speed: 10, Born: 0, Gone: 0, Maps: []api.LowMap{
		chart(0, at(0, 50)), chart(1, spot(span(0, 20), span(50, 50), span(0, 99999))), chart(2, at(21, 50)),
	}}
}

// copied returns a suite that shares no memory with another one.
func copied(s api.LowSuite) api.LowSuite {
	s.Maps = slices.Clone(s.Maps)
	for i := range s.Maps {
		s.Maps[i].Spots = slices.Clone(s.Maps[i].Spots)
	}
	return s
}

// cut returns the suite of some maps, from the first one on.
func cut(s api.LowSuite, maps int) api.LowSuite {
	s = copied(s)
	s.Maps = s.Maps[:maps]
	return s
}

// lists returns a list for each map of a suite, with a number for each of its lows.
func lists(s api.LowSuite, number int) [][]int {
	var out [][]int
	for _, m := range s.Maps {
		out = append(out, slices.Repeat([]int{number}, len(m.Spots)))
	}
	return out
}

// equal reports whether two lists of lists are equal.
func equal[T comparable](a, b [][]T) bool {
	return slices.EqualFunc(a, b, func(a, b []T) bool { return slices.Equal(a, b) })
}

// in reports whether a number lies in a span.
func in(n int, s api.Span) bool { return s.Low <= n && n <= s.High }

// near reports whether two numbers that are not out of range differ by at most some number.
func near(a, b, most int) bool { return a-b <= most && b-a <= most }

// births returns how many lows are born.
func births(same [][]int) int {
	n := 0
	for _, row := range same[1:] {
		for _, before := range row {
			if before == -1 {
				n++
			}
		}
	}
	return n
}

// ended reports whether a low of a map other than the last one ends.
func ended(same [][]int, at, low int) bool { return !slices.Contains(same[at+1], low) }

// deaths returns how many lows end.
func deaths(same [][]int) int {
	n := 0
	for i := range same[1:] {
		for number := range same[i] {
			if ended(same, i, number) {
				n++
			}
		}
	}
	return n
}

// repeated reports whether a number other than -1 is twice in a list.
func repeated(row []int) bool {
	met := map[int]bool{}
	for _, before := range row {
		if before != -1 && met[before] {
			return true
		}
		met[before] = true
	}
	return false
}

// isTruth reports whether something that has the lists of a truth is one, as the chapter says.
func isTruth(s api.LowSuite, t api.LowTruth) bool {
	for i, m := range s.Maps {
		for j, k := range m.Spots {
			if !in(t.X[i][j], k.X) || !in(t.Y[i][j], k.Y) || !in(t.Depth[i][j], k.Depth) {
				return false
			}
			before := t.Same[i][j]
			if before == -1 {
				continue
			}
			hours := m.At - s.Maps[i-1].At
			if !near(t.X[i][j], t.X[i-1][before], s.Speed*hours) || !near(t.Y[i][j], t.Y[i-1][before], s.Speed*hours) ||
				!near(t.Depth[i][j], t.Depth[i-1][before], s.Deepen*hours) {
				return false
			}
		}
		if repeated(t.Same[i]) {
			return false
		}
	}
	return births(t.Same) <= s.Born && deaths(t.Same) <= s.Gone
}

// allLinks yields all lists of Same that the lows of a suite can have, in lexicographic order, all in the same memory: it counts through all numbers.
func allLinks(s api.LowSuite) iter.Seq[[][]int] {
	return func(yield func([][]int) bool) {
		same := lists(s, -1)
		for {
			if !slices.ContainsFunc(same, repeated) && !yield(same) {
				return
			}
			i, j := len(same)-1, 0
			for ; i > 0; i-- {
				for j = len(same[i]) - 1; j >= 0 && same[i][j] == len(same[i-1])-1; j-- {
					same[i][j] = -1
				}
				if j >= 0 {
					break
				}
			}
			if i <= 0 {
				return
			}
			same[i][j]++
		}
	}
}

// limitsOf returns the span of one of the three numbers of a low, X, Y or how deep it is, and how much it can change in an hour.
func limitsOf(s api.LowSuite, at, low, number int) (api.Span, int) {
	k := s.Maps[at].Spots[low]
	switch number {
	case 0:
		return k.X, s.Speed
	case 1:
		return k.Y, s.Speed
	}
	return k.Depth, s.Deepen
}

// allNumbers yields all lists of one of the three numbers that the lows of a suite can have with some links, all in the same memory: it goes through all numbers of each low, after those before it.
func allNumbers(s api.LowSuite, same [][]int, number int) iter.Seq[[][]int] {
	return func(yield func([][]int) bool) {
		l := lists(s, 0)
		var fill func(i, j int) bool
		fill = func(i, j int) bool {
			if i == len(s.Maps) {
				return yield(l)
			}
			if j == len(s.Maps[i].Spots) {
				return fill(i+1, 0)
			}
			limits, rate := limitsOf(s, i, j, number)
			for n := limits.Low; n <= limits.High; n++ {
				before := same[i][j]
				if before != -1 && !near(n, l[i-1][before], rate*(s.Maps[i].At-s.Maps[i-1].At)) {
					continue
				}
				l[i][j] = n
				if !fill(i, j+1) {
					return false
				}
			}
			return true
		}
		fill(0, 0)
	}
}

// someTruths yields truths of a suite, such that all links that there are in truths, and with them all lists of X, of Y and of depths, are in one of them at least: each X goes with each Y, and each depth.
func someTruths(s api.LowSuite) iter.Seq[api.LowTruth] {
	return func(yield func(api.LowTruth) bool) {
		for same := range allLinks(s) {
			if births(same) > s.Born || deaths(same) > s.Gone {
				continue
			}
			var all [3][][][]int
			most := 1
			for number := range all {
				for l := range allNumbers(s, same, number) {
					all[number] = append(all[number], clone(l))
				}
				most = max(most, len(all[number]))
				if len(all[number]) == 0 {
					most = 0
					break
				}
			}
			for i := range most {
				x, y, depth := all[0][i%len(all[0])], all[1][i%len(all[1])], all[2][i%len(all[2])]
				if !yield(api.LowTruth{Same: same, X: x, Y: y, Depth: depth}) {
					return
				}
			}
		}
	}
}

// clone returns lists that share no memory with others.
func clone(l [][]int) [][]int {
	l = slices.Clone(l)
	for i := range l {
		l[i] = slices.Clone(l[i])
	}
	return l
}

// narrowed returns between which bounds the lows of a suite lie with some links, if one map narrows the next one, and the other way round; and whether there is such a truth.
func narrowed(s api.LowSuite, same [][]int) ([][]api.LowSpot, bool) {
	spots := make([][]api.LowSpot, len(s.Maps))
	for i, m := range s.Maps {
		spots[i] = slices.Clone(m.Spots)
	}
	possible := true
	meet := func(one, other *api.Span, far int) {
		*one = span(max(one.Low, other.Low-far), min(one.High, other.High+far))
		possible = possible && one.Low <= one.High
	}
	// three times forwards and backwards, as a chain has three steps
	for range 3 {
		for i := 1; i < len(spots); i++ {
			for j, before := range same[i] {
				if before == -1 {
					continue
				}
				hours := s.Maps[i].At - s.Maps[i-1].At
				a, b := &spots[i-1][before], &spots[i][j]
				for range 2 {
					meet(&b.X, &a.X, s.Speed*hours)
					meet(&b.Y, &a.Y, s.Speed*hours)
					meet(&b.Depth, &a.Depth, s.Deepen*hours)
					a, b = b, a
				}
			}
		}
	}
	return spots, possible
}

// fact is a link: the low of a map is the same one as a low of the map before, born if that is -1; or, if the low is -1, the one of the map before ends.
type fact struct{ at, low, before int }

// known is what is known of a suite, after some truths of it.
type known struct {
	all    int
	is     map[fact]int
	spots  [][]api.LowSpot
	paths  map[fact][][]int
	fewest int
	links  [][]int
}

// pathOf returns the path of a low.
func pathOf(same [][]int, at, low int) []int {
	path := []int{low}
	for i := at + 1; i < len(same); i++ {
		for number, before := range same[i] {
			if before == path[len(path)-1] && len(path) == i-at {
				path = append(path, number)
				break
			}
		}
	}
	return path
}

// join makes bounds so wide that others lie in them.
func join(a *api.Span, b api.Span) { *a = span(min(a.Low, b.Low), max(a.High, b.High)) }

// add adds links, and between which bounds the lows lie with them.
func (k *known) add(same [][]int, spots [][]api.LowSpot) {
	k.all++
	lows := len(same[0]) + births(same)
	if k.links == nil || lows < k.fewest {
		k.fewest, k.links = lows, clone(same)
	}
	if k.spots == nil {
		for _, row := range spots {
			k.spots = append(k.spots, slices.Clone(row))
		}
		k.is, k.paths = map[fact]int{}, map[fact][][]int{}
	}
	for i, row := range same {
		for j, before := range row {
			join(&k.spots[i][j].X, spots[i][j].X)
			join(&k.spots[i][j].Y, spots[i][j].Y)
			join(&k.spots[i][j].Depth, spots[i][j].Depth)
			path, low := pathOf(same, i, j), fact{at: i, low: j}
			if !slices.ContainsFunc(k.paths[low], func(p []int) bool { return slices.Equal(p, path) }) {
				k.paths[low] = append(k.paths[low], path)
			}
			k.is[fact{i, j, before}]++
			if i+1 < len(same) && ended(same, i, j) {
				k.is[fact{i + 1, -1, j}]++
			}
		}
	}
}

// word returns the word for a fact.
func (k *known) word(f fact) api.LowWord {
	switch k.is[f] {
	case 0:
		return api.LowNever
	case k.all:
		return api.LowSurely
	}
	return api.LowMay
}

// fromTruths returns what is known of a suite by its truths.
func fromTruths(s api.LowSuite) known {
	var k known
	for t := range someTruths(s) {
		var spots [][]api.LowSpot
		for i, row := range t.Same {
			spots = append(spots, nil)
			for j := range row {
				x, y, depth := t.X[i][j], t.Y[i][j], t.Depth[i][j]
				spots[i] = append(spots[i], spot(span(x, x), span(y, y), span(depth, depth)))
			}
		}
		k.add(t.Same, spots)
	}
	return k
}

// fromLinks returns what is known of a suite by all of its links.
func fromLinks(s api.LowSuite) known {
	var k known
	for same := range allLinks(s) {
		if births(same) > s.Born || deaths(same) > s.Gone {
			continue
		}
		if spots, possible := narrowed(s, same); possible {
			k.add(same, spots)
		}
	}
	return k
}

// isPossible reports whether the maps of a suite are possible.
func isPossible(s api.LowSuite) bool {
	for same := range allLinks(s) {
		if births(same) <= s.Born && deaths(same) <= s.Gone {
			if _, possible := narrowed(s, same); possible {
				return true
			}
		}
	}
	return false
}

// dicer is numbers that look like chance but are the same in each run.
type dicer struct {
	*rand.Rand
}

// dice returns a dicer.
func dice(seed uint64) dicer { return dicer{rand.New(rand.NewPCG(seed, 4))} }

// from returns a number from low to high.
func (d dicer) from(low, high int) int { return low + d.IntN(high-low+1) }

// among returns one of some numbers.
func (d dicer) among(numbers ...int) int { return numbers[d.IntN(len(numbers))] }

// around returns a span with a number, from 0 to a greatest one.
func (d dicer) around(n, wide, most int) api.Span {
	return span(max(0, n-d.from(0, wide)), min(most, n+d.from(0, wide)))
}

// scale is how large the numbers of a suite are.
type scale struct {
	maps, lows                int
	side, speed, hours        int
	depth, deepen             int
	wide, deep                int // how far spans reach at most
	spareBorn, spareGone, off int // how many births and ends more are allowed at most, and in how many suites of 100 something is changed
}

// small is the scale of suites whose truths can be gone through.
func (d dicer) small() scale {
	c := scale{maps: d.from(2, 4), lows: d.from(1, 3), side: d.from(2, 6), speed: 2, hours: 2, depth: d.from(1, 4), deepen: 2, spareBorn: 1, spareGone: 1, off: 25}
	if c.maps*c.lows <= 6 {
		c.wide, c.deep = d.from(0, 1), d.from(0, 1)
	}
	return c
}

// large is the scale of suites of all sizes.
func (d dicer) large() scale {
	return scale{maps: 4, lows: 3, side: d.among(20, 100, 100), speed: d.among(1, 5, 50), hours: d.among(2, 12, 66), depth: d.among(500, 99999), deepen: d.among(0, 50, 1000), wide: d.among(0, 3, 20), deep: d.among(0, 100, 5000), spareBorn: 2, spareGone: 2, off: 50}
}

// moved returns a number after some hours.
func (d dicer) moved(n, change, most int) int {
	return max(0, min(most, n+d.from(-change, change)))
}

// history returns a truth, and a suite of it in which nothing is known too closely.
func (d dicer) history(c scale) (api.LowSuite, api.LowTruth) {
	var s api.LowSuite
	var t api.LowTruth
	s.Speed, s.Deepen = d.from(0, c.speed), d.from(0, c.deepen)
	hour := d.from(0, 2)
	for i := range d.from(1, c.maps) {
		lows := d.from(0, c.lows)
		if d.IntN(3) > 0 {
			lows = c.lows
		}
		hours := d.from(1, c.hours)
		if i > 0 {
			hour = min(200-c.maps+i, hour+hours)
			hours = hour - s.Maps[i-1].At
		}
		s.Maps = append(s.Maps, chart(hour))
		t.Same, t.X, t.Y, t.Depth = append(t.Same, nil), append(t.X, nil), append(t.Y, nil), append(t.Depth, nil)
		var left []int
		if i > 0 {
			left = d.Perm(len(s.Maps[i-1].Spots))
		}
		for range lows {
			before, x, y, depth := -1, d.from(0, c.side), d.from(0, c.side), d.from(0, c.depth)
			if len(left) > 0 && d.IntN(5) > 0 {
				before, left = left[0], left[1:]
				x, y = d.moved(t.X[i-1][before], s.Speed*hours, 100), d.moved(t.Y[i-1][before], s.Speed*hours, 100)
				depth = d.moved(t.Depth[i-1][before], s.Deepen*hours, 99999)
			}
			t.Same[i], t.X[i], t.Y[i], t.Depth[i] = append(t.Same[i], before), append(t.X[i], x), append(t.Y[i], y), append(t.Depth[i], depth)
			s.Maps[i].Spots = append(s.Maps[i].Spots, spot(d.around(x, c.wide, 100), d.around(y, c.wide, 100), d.around(depth, c.deep, 99999)))
		}
	}
	s.Born, s.Gone = births(t.Same)+d.from(0, c.spareBorn), deaths(t.Same)+d.from(0, c.spareGone)
	return s, t
}

// spoil changes a suite so that less is possible, if anything is.
func (d dicer) spoil(s *api.LowSuite) {
	switch d.IntN(5) {
	case 0:
		s.Born = d.IntN(s.Born + 1)
	case 1:
		s.Gone = d.IntN(s.Gone + 1)
	case 2:
		s.Speed = d.IntN(s.Speed + 1)
	case 3:
		s.Deepen = d.IntN(s.Deepen + 1)
	case 4:
		spots := s.Maps[d.IntN(len(s.Maps))].Spots
		if len(spots) > 0 {
			x := d.from(0, 100)
			spots[d.IntN(len(spots))].X = span(x, x)
		}
	}
}

// suite returns a suite that often is possible, but seldom surely.
func (d dicer) suite(c scale) api.LowSuite {
	s, _ := d.history(c)
	if d.IntN(100) < c.off {
		for range d.from(1, 3) {
			d.spoil(&s)
		}
	}
	return s
}

// askAbout returns what the functions say of all lows of a suite that is as defined; the first error that is not OK, if there is one.
func askAbout(s api.LowSuite) (known, [][][]api.LowWord, api.Errno) {
	k := known{paths: map[fact][][]int{}}
	var words [][][]api.LowWord
	var first api.Errno
	note := func(e api.Errno) {
		if first == api.OK {
			first = e
		}
	}
	var e api.Errno
	for i, m := range s.Maps {
		k.spots = append(k.spots, nil)
		for j := range m.Spots {
			path, e := low.Paths(s, i, j)
			note(e)
			where, e := low.Where(s, i, j)
			note(e)
			k.paths[fact{at: i, low: j}] = path
			k.spots[i] = append(k.spots[i], where)
		}
		if i > 0 {
			list, e := low.Same(s, i)
			note(e)
			words = append(words, list)
		}
	}
	list, e := low.Births(s)
	note(e)
	words = append(words, list)
	list, e = low.Ends(s)
	note(e)
	words = append(words, list)
	k.fewest, k.links, e = low.Fewest(s)
	note(e)
	return k, words, first
}
