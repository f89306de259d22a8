package watch_test

import (
	"slices"
	"testing"

	"isobar/api"
	"isobar/watch"
)

// TestGreaterOdds is for P9.6: greater odds never convict anybody, nor of copying who was convicted of inventing.
func TestGreaterOdds(t *testing.T) {
	d := dice(12)
	changes := map[[2]api.WatchVerdict]int{}
	for range 20000 {
		l := d.log(d.from(2, 10), 18)
		more := l
		more.Odds = min(1000000, d.among(l.Odds+1, 2*l.Odds, d.from(l.Odds, 1000000)))
		before, _ := watch.Judge(l)
		after, e := watch.Judge(more)
		if e != api.OK || before == open && after != open || after == copied && before != copied {
			t.Fatal(l, more.Odds, before, after, e)
		}
		changes[[2]api.WatchVerdict{before, after}]++
	}
	for _, change := range [][2]api.WatchVerdict{{open, open}, {invented, invented}, {invented, open}, {copied, copied}, {copied, open}, {copied, invented}} {
		if changes[change] < 20 {
			t.Error("too few of some change:", change, changes)
		}
	}
}

// TestGreaterNeed is for P9.6: greater odds never need fewer agreements, nor fewer days of a favourite.
func TestGreaterNeed(t *testing.T) {
	for base := 2; base <= 10; base++ {
		for days := range 19 {
			before, beforeFavourite := 0, 0
			for _, odds := range oddsTried {
				agreements, favourite, e := watch.Need(base, days, odds)
				if agreements < before || favourite < beforeFavourite || e != api.OK {
					t.Fatal(base, days, odds, agreements, favourite, e)
				}
				before, beforeFavourite = agreements, favourite
			}
		}
	}
}

// TestOtherDays is for P9.6: days that do not count change nothing, wherever they stand, and whatever the one figure is; so they convict nobody.
func TestOtherDays(t *testing.T) {
	d := dice(13)
	verdicts := map[api.WatchVerdict]int{}
	for range 10000 {
		l := d.log(d.from(2, 10), 12)
		more := copyOfLog(l)
		for range d.from(1, 6) {
			at := d.from(0, len(more.Own))
			own, paper := -1, -1
			switch d.IntN(3) {
			case 0:
				own = d.IntN(l.Base)
			case 1:
				paper = d.IntN(l.Base)
			}
			more.Own, more.Paper = slices.Insert(more.Own, at, own), slices.Insert(more.Paper, at, paper)
		}
		want, _ := watch.Judge(l)
		v, e := watch.Judge(more)
		if v != want || e != api.OK {
			t.Fatal(l, more, want, v, e)
		}
		days, agreements, favourite, _ := watch.Agree(l)
		moreDays, moreAgreements, moreFavourite, e := watch.Agree(more)
		if moreDays != days || moreAgreements != agreements || moreFavourite != favourite || e != api.OK {
			t.Fatal(l, more, moreDays, moreAgreements, moreFavourite, e)
		}
		verdicts[v]++
	}
	if verdicts[open] < 500 || verdicts[invented] < 500 || verdicts[copied] < 500 {
		t.Error("too few of some verdicts:", verdicts)
	}
}

// TestOtherOrder is for P9.3: in which order the days come, and which figure is called which, does not matter.
func TestOtherOrder(t *testing.T) {
	d := dice(14)
	for range 5000 {
		l := d.log(d.from(2, 10), 18)
		days, names := d.Perm(len(l.Own)), d.Perm(l.Base)
		other := api.WatchLog{Base: l.Base, Odds: l.Odds}
		named := func(figure int) int {
			if figure < 0 {
				return figure
			}
			return names[figure]
		}
		for _, day := range days {
			other.Own, other.Paper = append(other.Own, named(l.Own[day])), append(other.Paper, named(l.Paper[day]))
		}
		want, _ := watch.Judge(l)
		if v, e := watch.Judge(other); v != want || e != api.OK {
			t.Fatal(l, other, want, v, e)
		}
	}
}

// better returns a round whose roads are known better, and whose stations are due later.
func (d dicer) better(r api.WatchRound) api.WatchRound {
	r = copyOf(r)
	for i := range r.Roads {
		for j, road := range r.Roads[i] {
			if d.IntN(2) == 0 {
				low := d.from(road.Low, road.High)
				r.Roads[i][j] = span(low, d.from(low, road.High))
			}
		}
	}
	for i := range r.Stations {
		if d.IntN(3) == 0 {
			r.Stations[i].Due = d.from(r.Stations[i].Due, 400)
		}
	}
	return r
}

// TestKnownBetter is for P9.6: roads that are known better, and a later Due, never make an order unsure; nor do they make bounds wider, or the best order worse.
func TestKnownBetter(t *testing.T) {
	d := dice(15)
	changes := map[[2]bool]int{}
	improved := 0
	for range 5000 {
		r := d.round(d.from(1, 5), d.among(3, 20, 60), d.among(1, 5, 20), d.among(5, 10, 20, 66))
		more := d.better(r)
		for range 4 {
			order := d.order(r)
			before, _ := watch.Sure(r, order)
			after, e := watch.Sure(more, order)
			if before && !after || e != api.OK {
				t.Fatal(r, more, order, before, after, e)
			}
			changes[[2]bool{before, after}]++
			comes, end, _ := watch.Known(r, order)
			moreComes, moreEnd, e := watch.Known(more, order)
			if !slices.EqualFunc(moreComes, comes, inside) || !inside(moreEnd, end) || e != api.OK {
				t.Fatal(r, more, order, moreComes, moreEnd, e)
			}
		}
		best, end, _ := watch.Best(r)
		other, otherEnd, e := watch.Best(more)
		if len(other) < len(best) || len(other) == len(best) && otherEnd > end || e != api.OK {
			t.Fatal(r, more, best, end, other, otherEnd, e)
		}
		if len(other) > len(best) {
			improved++
		}
	}
	if changes[[2]bool{true, true}] < 1000 || changes[[2]bool{false, true}] < 500 || changes[[2]bool{false, false}] < 1000 || improved < 500 {
		t.Error("too few of some changes:", changes, improved)
	}
}

// TestEarlierStart is for P9.5: an earlier start, and shorter stays, never make an order unsure; a start and Dues that are all as many days later change nothing but the days.
func TestEarlierStart(t *testing.T) {
	d := dice(16)
	for range 5000 {
		r := d.round(d.from(1, 6), d.among(3, 20), d.among(1, 5, 20), d.among(5, 10, 20))
		order := d.order(r)
		sure, _ := watch.Sure(r, order)
		earlier := copyOf(r)
		earlier.Start = d.from(0, r.Start)
		for i, s := range earlier.Stations {
			earlier.Stations[i].Stay = d.from(0, s.Stay)
		}
		if is, e := watch.Sure(earlier, order); sure && !is || e != api.OK {
			t.Fatal(r, earlier, order, e)
		}
		by := 400 - r.Start
		for _, s := range r.Stations {
			by = min(by, 400-s.Due)
		}
		by = d.from(0, by)
		later := copyOf(r)
		later.Start += by
		for i := range later.Stations {
			later.Stations[i].Due += by
		}
		best, end, _ := watch.Best(r)
		if other, last, e := watch.Best(later); !slices.Equal(best, other) || last != end+by || e != api.OK {
			t.Fatal(r, later, best, other, e)
		}
	}
}

// TestToItself is for P9.5: the roads from a place to itself do not matter, and those to the office do not, as nobody travels on them.
func TestToItself(t *testing.T) {
	d := dice(17)
	for range 3000 {
		r := d.round(d.from(1, 6), d.among(3, 20), d.among(1, 5, 20), d.among(5, 10, 20))
		other := copyOf(r)
		for i := range other.Roads {
			low := d.from(0, 60)
			other.Roads[i][i], other.Roads[i][0] = span(low, d.from(low, 60)), span(d.from(0, low), low)
		}
		order := d.order(r)
		comes, end, _ := watch.Known(r, order)
		if others, otherEnd, e := watch.Known(other, order); !slices.Equal(others, comes) || otherEnd != end || e != api.OK {
			t.Fatal(r, other, order, others, otherEnd, e)
		}
		best, last, _ := watch.Best(r)
		if otherBest, otherLast, e := watch.Best(other); !slices.Equal(best, otherBest) || otherLast != last || e != api.OK {
			t.Fatal(r, other, best, otherBest, e)
		}
	}
}
