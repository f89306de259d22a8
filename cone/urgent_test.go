package cone_test

import (
	"math"
	"slices"
	"testing"

	"isobar/api"
	"isobar/cone"
)

// TestSuffice is for P5.5: the chapter's example, and the edges of what suffices.
func TestSuffice(t *testing.T) {
	for i, x := range []struct {
		change func(*api.ConeWatch)
		urgent []int
		minute int
		want   bool
	}{
		{func(w *api.ConeWatch) {}, []int{3}, 850, true},
		{func(w *api.ConeWatch) {}, []int{3}, 849, false},
		{func(w *api.ConeWatch) {}, nil, 890, true},
		{func(w *api.ConeWatch) {}, nil, 889, false},
		{func(w *api.ConeWatch) {}, []int{}, 20000, true},
		{func(w *api.ConeWatch) {}, []int{2}, 780, true},
		{func(w *api.ConeWatch) {}, []int{2}, 779, false},
		{func(w *api.ConeWatch) {}, []int{0, 1, 2, 3}, 780, true},
		{func(w *api.ConeWatch) {}, []int{0, 1, 2, 3}, 779, false},
		{func(w *api.ConeWatch) {}, []int{0, 1, 2, 3}, 0, false},
		// what is urgent does not come later than it would
		{func(w *api.ConeWatch) { w.Reports[3].Urgent = 2880 }, []int{3}, 890, true},
		{func(w *api.ConeWatch) { w.Reports[3].Urgent = 30 }, []int{3}, 870, true},
		{func(w *api.ConeWatch) { w.Reports[3].Urgent = 30 }, []int{3}, 869, false},
		// both reports of an alarm
		{func(w *api.ConeWatch) { w.Reports[0].Delay = span(400, 500) }, []int{3}, 979, false},
		{func(w *api.ConeWatch) { w.Reports[0].Delay = span(400, 500) }, []int{0, 3}, 850, true},
		{func(w *api.ConeWatch) { w.Reports[0].Delay = span(400, 500) }, []int{0, 2}, 780, true},
		{func(w *api.ConeWatch) { w.Reports[0].Delay = span(400, 500) }, []int{0, 2}, 779, false},
		// it must be seen in time
		{func(w *api.ConeWatch) { w.Hold = 11 }, []int{3}, 20000, true},
		{func(w *api.ConeWatch) { w.Hold = 10 }, []int{3}, 20000, false},
		{func(w *api.ConeWatch) { w.Hold = 11 }, nil, 20000, false},
		{func(w *api.ConeWatch) { w.Hold = 11 }, []int{0, 1, 2}, 20000, false},
		{func(w *api.ConeWatch) { w.Hold = 21 }, []int{2}, 780, true},
		{func(w *api.ConeWatch) { w.Links, w.Fall = nil, 99999 }, []int{0, 1, 2, 3}, 20000, false},
		{func(w *api.ConeWatch) { w.Reports = nil }, nil, 20000, false},
		// the minute 0
		{func(w *api.ConeWatch) { w.Reports[0].Taken, w.Reports[2].Taken = 0, 0; zero(w) }, []int{0, 2}, 0, true},
		{func(w *api.ConeWatch) { w.Reports[0].Taken, w.Reports[2].Taken = 0, 0; zero(w) }, []int{0}, 0, false},
	} {
		w := watchW()
		x.change(&w)
		if got, e := cone.Suffice(w, x.urgent, x.minute); e != api.OK || got != x.want {
			t.Error(i, got, e)
		}
	}
}

// zero makes urgent reports come at once.
func zero(w *api.ConeWatch) {
	for i := range w.Reports {
		w.Reports[i].Urgent = 0
	}
}

// TestSufficeErrors is for P5.5.
func TestSufficeErrors(t *testing.T) {
	for i, x := range []struct {
		urgent []int
		minute int
	}{
		{[]int{-1}, 850}, {[]int{4}, 850}, {[]int{0, 4}, 850}, {[]int{3, 3}, 850}, {[]int{2, 1}, 850}, {[]int{0, 1, 1}, 850},
		{[]int{0, 1, 2, 3, 4}, 850}, {[]int{math.MaxInt}, 850}, {[]int{math.MinInt, 1}, 850}, {[]int{math.MaxInt, math.MinInt}, 850},
		{nil, -1}, {nil, 20001}, {nil, math.MinInt}, {nil, math.MaxInt},
	} {
		if got, e := cone.Suffice(watchW(), x.urgent, x.minute); got || e != api.ErrArg {
			t.Error(i, got, e)
		}
	}
	for i, minute := range []int{-1, 20001, math.MinInt, math.MaxInt} {
		if best, cost, e := cone.Speed(watchW(), minute); best != nil || cost != 0 || e != api.ErrArg {
			t.Error(i, best, cost, e)
		}
	}
	for i, w := range wrongWatches() {
		if got, e := cone.Suffice(w, nil, 20000); got || e != api.ErrArg {
			t.Error(i, got, e)
		}
		if best, cost, e := cone.Speed(w, 20000); best != nil || cost != 0 || e != api.ErrArg {
			t.Error(i, best, cost, e)
		}
	}
}

// costs gives the reports of a watch their Costs.
func costs(w *api.ConeWatch, numbers ...int) {
	for i, n := range numbers {
		w.Reports[i].Cost = n
	}
}

// TestSpeed is for P5.5 and P0.5: the chapter's example, and how the best of several is told.
func TestSpeed(t *testing.T) {
	for i, x := range []struct {
		change func(*api.ConeWatch)
		minute int
		best   []int
		cost   int
		e      api.Errno
	}{
		{func(w *api.ConeWatch) {}, 890, nil, 0, api.OK},
		{func(w *api.ConeWatch) {}, 20000, nil, 0, api.OK},
		{func(w *api.ConeWatch) {}, 889, []int{3}, 4, api.OK},
		{func(w *api.ConeWatch) {}, 850, []int{3}, 4, api.OK},
		{func(w *api.ConeWatch) {}, 849, []int{2}, 9, api.OK},
		{func(w *api.ConeWatch) {}, 800, []int{2}, 9, api.OK},
		{func(w *api.ConeWatch) {}, 780, []int{2}, 9, api.OK},
		{func(w *api.ConeWatch) {}, 779, nil, 0, api.ErrNone},
		{func(w *api.ConeWatch) {}, 0, nil, 0, api.ErrNone},
		// two reports are cheaper than one
		{func(w *api.ConeWatch) { slow(w); costs(w, 1, 1, 9, 1) }, 850, []int{0, 3}, 2, api.OK},
		{func(w *api.ConeWatch) { slow(w); costs(w, 1, 1, 0, 1) }, 850, []int{0, 2}, 1, api.OK},
		{func(w *api.ConeWatch) { slow(w) }, 979, []int{0}, 5, api.OK},
		{func(w *api.ConeWatch) { slow(w) }, 849, []int{0, 2}, 14, api.OK},
		// the fewest of those that cost the same: what costs nothing is not sent urgently for that
		{func(w *api.ConeWatch) { costs(w, 0, 0, 0, 0) }, 890, nil, 0, api.OK},
		{func(w *api.ConeWatch) { costs(w, 0, 0, 0, 0) }, 849, []int{2}, 0, api.OK},
		{func(w *api.ConeWatch) { slow(w); w.Reports[2].Delay = span(0, 20); costs(w, 4, 0, 0, 0) }, 850, []int{0}, 4, api.OK},
		// the first one of several
		{func(w *api.ConeWatch) { costs(w, 0, 0, 0, 0) }, 850, []int{2}, 0, api.OK},
		{func(w *api.ConeWatch) { costs(w, 0, 0, 7, 7) }, 850, []int{2}, 7, api.OK},
		{func(w *api.ConeWatch) { slow(w); costs(w, 5, 0, 3, 3) }, 850, []int{0, 2}, 8, api.OK},
		{func(w *api.ConeWatch) { slow(w); costs(w, 5, 0, 3, 2) }, 850, []int{0, 3}, 7, api.OK},
		{func(w *api.ConeWatch) { w.Hold = 10 }, 20000, nil, 0, api.ErrNone},
		{func(w *api.ConeWatch) { w.Hold = 11 }, 20000, []int{3}, 4, api.OK},
		{func(w *api.ConeWatch) { w.Reports = nil }, 20000, nil, 0, api.ErrNone},
		{func(w *api.ConeWatch) { w.Reports[0].Taken, w.Reports[2].Taken = 0, 0; zero(w) }, 0, []int{0, 2}, 14, api.OK},
		{func(w *api.ConeWatch) { slow(w); costs(w, 10000, 10000, 10000, 10000) }, 850, []int{0, 2}, 20000, api.OK},
	} {
		w := watchW()
		x.change(&w)
		if best, cost, e := cone.Speed(w, x.minute); e != x.e || cost != x.cost || !slices.Equal(best, x.best) {
			t.Error(i, best, cost, e)
		}
	}
}

// slow makes the report 0 of the chapter's watch w come late.
func slow(w *api.ConeWatch) { w.Reports[0].Delay = span(400, 500) }

// better reports whether urgent reports that suffice are better than others that do, as the chapter says.
func better(w api.ConeWatch, a, b []int) bool {
	if costOf(w, a) != costOf(w, b) {
		return costOf(w, a) < costOf(w, b)
	}
	if len(a) != len(b) {
		return len(a) < len(b)
	}
	return slices.Compare(a, b) < 0
}

// checkSpeed checks all lists of urgent reports of a watch for some minutes: with each of them the rule surely has seen a storm at one minute at last, which the argument tells.
func checkSpeed(t *testing.T, w api.ConeWatch, minutes []int, last func([]int) int) map[int]int {
	all := subsets(len(w.Reports))
	sure := make([]int, len(all))
	for i, urgent := range all {
		sure[i] = last(urgent)
	}
	counts := map[int]int{}
	for _, minute := range minutes {
		var best []int
		found := false
		for i, urgent := range all {
			suffice := sure[i] <= minute
			if got, e := cone.Suffice(w, urgent, minute); e != api.OK || got != suffice {
				t.Fatal(w, urgent, minute, got, e, suffice)
			}
			if suffice && (!found || better(w, urgent, best)) {
				best, found = urgent, true
			}
		}
		got, cost, e := cone.Speed(w, minute)
		if found && (e != api.OK || !slices.Equal(got, best) || cost != costOf(w, best)) || !found && (e != api.ErrNone || got != nil || cost != 0) {
			t.Fatal(w, minute, got, cost, e, best)
		}
		if !found {
			counts[-1]++
		} else {
			counts[len(best)]++
		}
	}
	return counts
}

// TestSpeedInAllTruths is for P5.5: what suffices, and what is best, is what all truths of small watches show.
func TestSpeedInAllTruths(t *testing.T) {
	d := dice(40)
	total := map[int]int{}
	for range 250 {
		z := d.small()
		z.reports = d.from(3, 4)
		w := d.stormy(z)
		var minutes []int
		for minute := max(0, z.start-1); minute < z.start+30; minute++ {
			minutes = append(minutes, minute)
		}
		counts := checkSpeed(t, w, minutes, func(urgent []int) int {
			h := hurried(w, urgent)
			last := 0
			for delays := range lists(delaySpans(h)) {
				last = max(last, sightIn(h, delays, z.start, z.start+40))
			}
			return last
		})
		for n, times := range counts {
			total[n] += times
		}
	}
	for n := -1; n <= 2; n++ {
		if total[n] < 50 {
			t.Error("too few of a kind:", n, total)
		}
	}
}

// TestSpeedOfMany is for P5.5: the best urgent reports of watches of all sizes are the best of all that somebody can propose.
func TestSpeedOfMany(t *testing.T) {
	d := dice(41)
	total := map[int]int{}
	for range 250 {
		w := d.stormy(d.large())
		sights := map[int]bool{0: true, 20000: true}
		last := func(urgent []int) int {
			_, sure, e := cone.See(hurried(w, urgent))
			if e != api.OK || sure == -1 {
				return unseen
			}
			sights[sure] = true
			return sure
		}
		for _, urgent := range subsets(len(w.Reports)) {
			last(urgent)
		}
		var minutes []int
		for minute := range sights {
			minutes = append(minutes, max(0, minute-1), minute)
		}
		slices.Sort(minutes)
		for n, times := range checkSpeed(t, w, minutes, last) {
			total[n] += times
		}
	}
	for n := -1; n <= 2; n++ {
		if total[n] < 50 {
			t.Error("too few of a kind:", n, total)
		}
	}
}

// TestSpeedInTruths is for P5.5 and P0.5: with the best urgent reports the rule has seen the storm in time, whatever the delays are.
func TestSpeedInTruths(t *testing.T) {
	d := dice(42)
	found := 0
	for range 2000 {
		w := d.stormy(d.large())
		can, _, e := cone.See(w)
		if e != api.OK {
			continue
		}
		minute := min(20000, can+d.from(0, 300))
		best, _, e := cone.Speed(w, minute)
		if e != api.OK {
			continue
		}
		if suffice, e := cone.Suffice(w, best, minute); e != api.OK || !suffice {
			t.Fatal(w, minute, best, e)
		}
		h := hurried(w, best)
		for range 5 {
			if got, e := cone.Play(h, d.truth(h)); e != api.OK || got > minute {
				t.Fatal(w, minute, best, got, e)
			}
		}
		if len(best) > 0 {
			found++
		}
	}
	if found < 100 {
		t.Error("too few need urgent reports:", found)
	}
}
