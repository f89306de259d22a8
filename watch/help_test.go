package watch_test

import (
	"iter"
	"math/big"
	"math/rand/v2"
	"slices"

	"isobar/api"
)

const (
	open     = api.WatchOpen
	invented = api.WatchInvented
	copied   = api.WatchCopied
)

// span returns a span.
func span(low, high int) api.Span { return api.Span{Low: low, High: high} }

// has reports whether a number lies in a span.
func has(s api.Span, n int) bool { return s.Low <= n && n <= s.High }

// inside reports whether a span lies within another one.
func inside(s, other api.Span) bool { return other.Low <= s.Low && s.High <= other.High }

// logL returns the chapter's log l.
func logL() api.WatchLog {
	return api.WatchLog{Base: 10, Odds: 1000, Own: []int{3, 1, 4, 1, 5, 9}, Paper: []int{3, 1, 4, 1, 5, 2}}
}

// logM returns the chapter's log m.
func logM() api.WatchLog {
	return api.WatchLog{Base: 10, Odds: 1000, Own: []int{7, 7, 7, 7, 7, 7}, Paper: []int{1, 2, 3, 4, 5, 6}}
}

// roundR returns the chapter's round r.
func roundR() api.WatchRound {
	return api.WatchRound{
		Stations: []api.WatchStation{{Stay: 1, Due: 5}, {Stay: 2, Due: 9}, {Stay: 1, Due: 12}},
		Roads: [][]api.Span{
			{span(0, 0), span(2, 3), span(3, 4), span(4, 6)},
			{span(2, 3), span(0, 0), span(2, 2), span(3, 4)},
			{span(3, 4), span(2, 2), span(0, 0), span(1, 2)},
			{span(4, 6), span(3, 4), span(1, 2), span(0, 0)},
		},
	}
}

// roundOf returns a round with stations whose Stay and Due are told one after the other, and with all roads the same.
func roundOf(start int, road api.Span, stayDue ...int) api.WatchRound {
	r := api.WatchRound{Start: start}
	for pair := range slices.Chunk(stayDue, 2) {
		r.Stations = append(r.Stations, api.WatchStation{Stay: pair[0], Due: pair[1]})
	}
	for range len(r.Stations) + 1 {
		r.Roads = append(r.Roads, slices.Repeat([]api.Span{road}, len(r.Stations)+1))
	}
	return r
}

// copyOf returns a round that shares no memory with another one.
func copyOf(r api.WatchRound) api.WatchRound {
	r.Stations, r.Roads = slices.Clone(r.Stations), slices.Clone(r.Roads)
	for i := range r.Roads {
		r.Roads[i] = slices.Clone(r.Roads[i])
	}
	return r
}

// copyOfLog returns a log that shares no memory with another one.
func copyOfLog(l api.WatchLog) api.WatchLog {
	l.Own, l.Paper = slices.Clone(l.Own), slices.Clone(l.Paper)
	return l
}

// lists yields all lists of a base for some days, in lexicographic order. Each one is written over the one before.
func lists(base, days int) iter.Seq[[]int] {
	return func(yield func([]int) bool) {
		list := make([]int, days)
		for {
			if !yield(list) {
				return
			}
			at := days - 1
			for at >= 0 && list[at] == base-1 {
				list[at] = 0
				at--
			}
			if at < 0 {
				return
			}
			list[at]++
		}
	}
}

// allOf returns how many lists of a base there are for some days.
func allOf(base, days int) int {
	n := 1
	for range days {
		n *= base
	}
	return n
}

// alike returns in how many places two lists have the same figure.
func alike(a, b []int) int {
	n := 0
	for i := range a {
		if a[i] == b[i] {
			n++
		}
	}
	return n
}

// most returns how often the figure stands in a list that stands there most often.
func most(list []int) int {
	best := 0
	for _, figure := range list {
		times := 0
		for _, other := range list {
			if other == figure {
				times++
			}
		}
		best = max(best, times)
	}
	return best
}

// agreeOf returns how many days of a log count, the agreements, and the favourite.
func agreeOf(l api.WatchLog) (days, agreements, favourite int) {
	var own, paper []int
	for i := range l.Own {
		if l.Own[i] >= 0 && l.Paper[i] >= 0 {
			own, paper = append(own, l.Own[i]), append(paper, l.Paper[i])
		}
	}
	return len(own), alike(own, paper), most(own)
}

// chanceOf returns the chance of agreements: of the lists with just so many agreements, day for day.
func chanceOf(base, days, least int) int {
	agree := []*big.Int{big.NewInt(1)}
	for range days {
		next := make([]*big.Int, len(agree)+1)
		for i := range next {
			next[i] = new(big.Int)
		}
		for i, n := range agree {
			next[i+1].Add(next[i+1], n)
			next[i].Add(next[i], new(big.Int).Mul(n, big.NewInt(int64(base-1))))
		}
		agree = next
	}
	sum := new(big.Int)
	for i, n := range agree {
		if i >= least {
			sum.Add(sum, n)
		}
	}
	return int(sum.Int64())
}

// partitions yields all lists of numbers from 1 on with some sum, at most so many of them, none greater than the one before.
func partitions(sum, parts int) iter.Seq[[]int] {
	return func(yield func([]int) bool) {
		var add func(begun []int, rest, greatest int) bool
		add = func(begun []int, rest, greatest int) bool {
			if rest == 0 {
				return yield(begun)
			}
			if len(begun) == parts {
				return true
			}
			for n := 1; n <= min(rest, greatest); n++ {
				if !add(append(slices.Clone(begun), n), rest-n, n) {
					return false
				}
			}
			return true
		}
		add(nil, sum, sum)
	}
}

// factorial returns the product of all numbers from 1 to another one.
func factorial(n int) *big.Int { return new(big.Int).MulRange(1, int64(n)) }

// favourOf returns the chance of a favourite: of the lists in which figures stand so many times, for all such numbers of times.
func favourOf(base, days, least int) int {
	sum := new(big.Int)
	for times := range partitions(days, base) {
		if len(times) > 0 && times[0] < least || len(times) == 0 && least > 0 {
			continue
		}
		n := new(big.Int).Mul(factorial(days), factorial(base))
		n.Quo(n, factorial(base-len(times)))
		equal := map[int]int{}
		for _, t := range times {
			n.Quo(n, factorial(t))
			equal[t]++
		}
		for _, e := range equal {
			n.Quo(n, factorial(e))
		}
		sum.Add(sum, n)
	}
	return int(sum.Int64())
}

// verdictOf returns the verdict on a log.
func verdictOf(l api.WatchLog) api.WatchVerdict {
	days, agreements, favourite := agreeOf(l)
	excluded := allOf(l.Base, days) / (2 * l.Odds)
	if chanceOf(l.Base, days, agreements) <= excluded {
		return copied
	}
	if favourOf(l.Base, days, favourite) <= excluded {
		return invented
	}
	return open
}

// orders returns all lists of different numbers below another one, in lexicographic order.
func orders(below int) [][]int {
	var out [][]int
	for days := range below + 1 {
		for list := range lists(max(below, 1), days) {
			if most(list) <= 1 {
				out = append(out, slices.Clone(list))
			}
		}
	}
	slices.SortFunc(out, slices.Compare)
	return out
}

// roadsOf returns the roads on which an order is travelled.
func roadsOf(r api.WatchRound, order []int) []api.Span {
	var out []api.Span
	for i, station := range order {
		if i == 0 {
			out = append(out, r.Roads[0][station+1])
		} else {
			out = append(out, r.Roads[order[i-1]+1][station+1])
		}
	}
	return out
}

// truths yields all lists of legs of an order. Each one is written over the one before.
func truths(r api.WatchRound, order []int) iter.Seq[[]int] {
	return func(yield func([]int) bool) {
		roads := roadsOf(r, order)
		legs := make([]int, len(order))
		var travel func(at int) bool
		travel = func(at int) bool {
			if at == len(order) {
				return yield(legs)
			}
			for legs[at] = roads[at].Low; legs[at] <= roads[at].High; legs[at]++ {
				if !travel(at + 1) {
					return false
				}
			}
			return true
		}
		travel(0)
	}
}

// ends returns the least legs of an order, and the greatest ones.
func ends(r api.WatchRound, order []int) (least, greatest []int) {
	for _, road := range roadsOf(r, order) {
		least, greatest = append(least, road.Low), append(greatest, road.High)
	}
	return least, greatest
}

// sum returns the sum of some numbers.
func sum(numbers []int) int {
	n := 0
	for _, more := range numbers {
		n += more
	}
	return n
}

// visitOf returns when the inspector comes to each station, and when the round ends: after all legs up to there, and all stays before.
func visitOf(r api.WatchRound, order, legs []int) ([]int, int) {
	var stays, comes []int
	for _, station := range order {
		stays = append(stays, r.Stations[station].Stay)
	}
	for i := range order {
		comes = append(comes, r.Start+sum(legs[:i+1])+sum(stays[:i]))
	}
	return comes, r.Start + sum(legs) + sum(stays)
}

// inTime reports whether the inspector comes in time to each station of an order with some legs.
func inTime(r api.WatchRound, order, legs []int) bool {
	comes, _ := visitOf(r, order, legs)
	for i, station := range order {
		if comes[i] > r.Stations[station].Due {
			return false
		}
	}
	return true
}

// bestOf returns the best of some orders, and the day on which it ends at the latest.
func bestOf(r api.WatchRound, orders [][]int) ([]int, int) {
	var best []int
	end := -1
	for _, order := range orders {
		_, slow := ends(r, order)
		_, latest := visitOf(r, order, slow)
		if !inTime(r, order, slow) {
			continue
		}
		if end < 0 || len(order) > len(best) || len(order) == len(best) && latest < end {
			best, end = order, latest
		}
	}
	return best, end
}

// dicer makes random arguments, the same ones each time.
type dicer struct{ *rand.Rand }

// dice returns a dicer.
func dice(seed uint64) dicer { return dicer{rand.New(rand.NewPCG(seed, 9))} }

// from returns a number from low to high.
func (d dicer) from(low, high int) int { return low + d.IntN(high-low+1) }

// among returns one of some numbers.
func (d dicer) among(numbers ...int) int { return numbers[d.IntN(len(numbers))] }

// log returns a log of a base with at most so many days. Its observer sometimes copies, or has a favourite, and some days have a figure only, or none.
func (d dicer) log(base, days int) api.WatchLog {
	l := api.WatchLog{Base: base, Odds: d.among(1, 2, 10, 100, 1000, 1000000, d.from(1, 1000))}
	copies, favours, misses := d.among(0, 0, 50, 90), d.among(0, 0, 50, 90), d.among(0, 0, 20, 100)
	for range d.from(0, days) {
		paper, own := d.IntN(base), d.IntN(base)
		if d.IntN(100) < copies {
			own = paper
		}
		if d.IntN(100) < favours {
			own = 1
		}
		if d.IntN(200) < misses {
			own = -1
		}
		if d.IntN(200) < misses {
			paper = -1
		}
		l.Own, l.Paper = append(l.Own, own), append(l.Paper, paper)
	}
	return l
}

// round returns a round with some stations, roads of at most so many days, known within so many, and stations that are due at most so many days after each other.
func (d dicer) round(stations, road, wide, apart int) api.WatchRound {
	r := api.WatchRound{Start: d.among(0, 0, d.from(0, 400), d.from(0, 100), d.from(0, 10))}
	for range stations {
		due := min(400, r.Start+d.from(0, apart*stations))
		r.Stations = append(r.Stations, api.WatchStation{Stay: d.among(0, 1, d.from(0, 10)), Due: due})
	}
	for range stations + 1 {
		var row []api.Span
		for range stations + 1 {
			low := d.from(0, road)
			row = append(row, span(low, min(60, low+d.from(0, wide))))
		}
		r.Roads = append(r.Roads, row)
	}
	return r
}

// order returns a list of different stations of a round.
func (d dicer) order(r api.WatchRound) []int {
	return d.Perm(len(r.Stations))[:d.from(0, len(r.Stations))]
}

// legs returns legs with which an order is travelled in some truth.
func (d dicer) legs(r api.WatchRound, order []int) []int {
	var legs []int
	for _, road := range roadsOf(r, order) {
		legs = append(legs, d.from(road.Low, road.High))
	}
	return legs
}
