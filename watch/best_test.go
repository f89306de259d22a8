package watch_test

import (
	"slices"
	"testing"

	"isobar/api"
	"isobar/watch"
)

// roundFor returns a round with stations whose Stay and Due are told one after the other, and with roads of just as many days as a table says.
func roundFor(roads [][]int, stayDue ...int) api.WatchRound {
	r := roundOf(0, span(0, 0), stayDue...)
	for from, row := range roads {
		for to, days := range row {
			r.Roads[from][to] = span(days, days)
		}
	}
	return r
}

// TestSure is for P9.5: the chapter's example, and the edges.
func TestSure(t *testing.T) {
	started := roundR()
	started.Start = 2
	for i, x := range []struct {
		r     api.WatchRound
		order []int
		want  bool
	}{
		{roundR(), []int{0, 2, 1}, false}, {roundR(), []int{0, 1, 2}, true}, {roundR(), []int{0, 2}, true}, {roundR(), []int{2}, true}, {roundR(), nil, true}, {roundR(), []int{}, true},
		// the inspector comes to 0 too late, though they come to 1 in time
		{roundR(), []int{1, 0}, false},
		{started, []int{0, 1, 2}, true}, {largest(), nil, true}, {largest(), []int{0}, false}, {smallest(), []int{0}, true},
		// just in time, or a day late, at the last station or at the first one
		{roundOf(10, span(1, 5), 3, 15, 0, 23), []int{0, 1}, true}, {roundOf(10, span(1, 5), 3, 14, 0, 23), []int{0, 1}, false}, {roundOf(10, span(1, 5), 3, 15, 0, 22), []int{0, 1}, false},
		// the stay at the last station is not travelled
		{roundOf(10, span(5, 5), 10, 15), []int{0}, true}, {roundOf(0, span(0, 0), 1, 0, 0, 0), []int{0, 1}, false}, {roundOf(0, span(0, 0), 1, 0, 0, 0), []int{1, 0}, true},
	} {
		if is, e := watch.Sure(x.r, x.order); is != x.want || e != api.OK {
			t.Error(i, is, e)
		}
	}
}

// TestBest is for P9.5: the chapter's example, and the edges.
func TestBest(t *testing.T) {
	started := roundR()
	started.Start = 3
	for i, x := range []struct {
		r    api.WatchRound
		want []int
		end  int
	}{
		{roundR(), []int{0, 1, 2}, 11}, {started, []int{1, 2}, 12},
		// nothing is in time
		{largest(), nil, 400}, {roundOf(7, span(0, 1), 5, 7, 5, 7), nil, 7},
		{smallest(), []int{0}, 0},
		// all orders end on the same day: the first one
		{roundOf(5, span(1, 2), slices.Repeat([]int{1, 400}, 6)...), []int{0, 1, 2, 3, 4, 5}, 23},
		// more stations are better than an earlier end
		{roundOf(0, span(50, 60), 10, 60, 0, 400), []int{0, 1}, 130}, {roundOf(0, span(1, 2), 10, 2, 0, 13), []int{1}, 2}, {roundOf(0, span(1, 2), 10, 2, 0, 14), []int{0, 1}, 14},
		// of one station each: the one whose order ends first, or the first one
		{roundOf(0, span(1, 2), 5, 2, 4, 2), []int{1}, 6}, {roundOf(0, span(1, 2), 4, 2, 4, 2), []int{0}, 6},
		// the day on which it ends at the latest counts, not the one at the earliest
		{api.WatchRound{Stations: []api.WatchStation{{Due: 5}, {Due: 5}}, Roads: [][]api.Span{{span(0, 0), span(0, 5), span(4, 4)}, {span(0, 0), span(0, 0), span(2, 2)}, {span(0, 0), span(2, 2), span(0, 0)}}}, []int{1}, 4},
		// a road takes longer one way
		{roundFor([][]int{{0, 1, 1}, {1, 0, 9}, {1, 2, 0}}, 0, 400, 0, 400), []int{1, 0}, 3}, {roundFor([][]int{{0, 1, 1}, {1, 0, 2}, {1, 9, 0}}, 0, 400, 0, 400), []int{0, 1}, 3},
		// a way round is shorter than the road
		{roundFor([][]int{{0, 9, 1, 1}, {9, 0, 1, 1}, {1, 1, 0, 1}, {1, 1, 1, 0}}, 0, 400, 0, 400, 0, 400), []int{1, 0, 2}, 3},
	} {
		if order, end, e := watch.Best(x.r); !slices.Equal(order, x.want) || end != x.end || e != api.OK {
			t.Error(i, order, end, e)
		}
	}
}

// TestSureTruths is for P9.5: an order is sure just where the inspector comes in time to each of its stations in all truths.
func TestSureTruths(t *testing.T) {
	d := dice(9)
	words := map[bool]int{}
	for range 3000 {
		r := d.round(d.from(1, 4), d.among(3, 20), d.among(0, 1, 3), d.among(5, 10, 20))
		order := d.order(r)
		want := true
		for legs := range truths(r, order) {
			want = want && inTime(r, order, legs)
		}
		is, e := watch.Sure(r, order)
		if is != want || e != api.OK {
			t.Fatal(r, order, is, e)
		}
		if len(order) > 1 {
			words[is]++
		}
	}
	if words[true] < 200 || words[false] < 200 {
		t.Error("too few orders that are sure, or that are not:", words)
	}
}

// TestBestAll is for P9.5: of all orders, none that is sure has more stations than the best one, or as many and ends earlier, or on the same day and comes first.
func TestBestAll(t *testing.T) {
	d := dice(10)
	lengths := map[[2]int]int{}
	for stations := 1; stations <= 6; stations++ {
		all := orders(stations)
		for range 200 {
			r := d.round(stations, d.among(1, 3, 20, 60), d.among(0, 1, 10), d.among(3, 10, 20, 60))
			want, wantEnd := bestOf(r, all)
			order, end, e := watch.Best(r)
			if !slices.Equal(order, want) || end != wantEnd || e != api.OK {
				t.Fatal(r, order, end, e, want, wantEnd)
			}
			if is, e := watch.Sure(r, order); !is || e != api.OK {
				t.Fatal(r, order, is, e)
			}
			if _, known, e := watch.Known(r, order); known.High != end || e != api.OK {
				t.Fatal(r, order, known, end, e)
			}
			lengths[[2]int{stations, len(order)}]++
		}
	}
	for stations := 1; stations <= 6; stations++ {
		for length := range stations + 1 {
			if lengths[[2]int{stations, length}] < 4 {
				t.Error("too few best orders of some length:", stations, length, lengths)
			}
		}
	}
}

// TestProposed is for P9.5: with the best order the inspector comes in time in all truths, and no order that somebody proposes is better; for the largest rounds.
func TestProposed(t *testing.T) {
	d := dice(11)
	sure := 0
	for range 300 {
		r := d.round(6, d.among(5, 30, 60), d.among(0, 5, 30), d.among(10, 30, 66))
		best, end, e := watch.Best(r)
		if e != api.OK {
			t.Fatal(r, e)
		}
		for range 20 {
			legs := d.legs(r, best)
			if _, last, e := watch.Visit(r, best, legs); !inTime(r, best, legs) || last > end || e != api.OK {
				t.Fatal(r, best, end, legs, last, e)
			}
			order := d.order(r)
			if is, _ := watch.Sure(r, order); !is {
				continue
			}
			sure++
			_, known, _ := watch.Known(r, order)
			if len(order) > len(best) || len(order) == len(best) && (known.High < end || known.High == end && slices.Compare(order, best) < 0) {
				t.Fatal(r, best, end, order, known)
			}
		}
	}
	if sure < 1000 {
		t.Error("too few orders that are sure:", sure)
	}
}
