package cone_test

import (
	"math"
	"testing"

	"isobar/api"
	"isobar/cone"
)

// TestHoisted is for P5.3: the chapter's example, and the edges of when the cone is up.
func TestHoisted(t *testing.T) {
	for i, x := range []struct {
		change        func(*api.ConeWatch)
		order, minute int
		want          bool
	}{
		{func(w *api.ConeWatch) {}, 30, 889, false},
		{func(w *api.ConeWatch) {}, 30, 890, true},
		{func(w *api.ConeWatch) {}, 31, 890, false},
		{func(w *api.ConeWatch) {}, 15, 874, false},
		{func(w *api.ConeWatch) {}, 15, 875, true},
		{func(w *api.ConeWatch) {}, 30, 1469, true},
		{func(w *api.ConeWatch) {}, 30, 1470, false},
		{func(w *api.ConeWatch) {}, 45, 1484, true},
		{func(w *api.ConeWatch) {}, 45, 1485, false},
		{func(w *api.ConeWatch) {}, 15, 0, false},
		{func(w *api.ConeWatch) {}, 15, 20000, false},
		// nobody must see it
		{func(w *api.ConeWatch) { w.Ports[0].Day, w.Ports[0].Night = 0, 0 }, 30, 890, true},
		// between two alarms it is down: the reports 0 and 2 are one from 910 to 959, the reports 0 and 3 from 960 on
		{func(w *api.ConeWatch) { w.Hold, w.Reports[3].Taken, w.Window = 200, 940, 480 }, 30, 939, false},
		{func(w *api.ConeWatch) { w.Hold, w.Reports[3].Taken, w.Window = 200, 940, 480 }, 30, 940, true},
		{func(w *api.ConeWatch) { w.Hold, w.Reports[3].Taken, w.Window = 170, 940, 480 }, 30, 949, true},
		{func(w *api.ConeWatch) { w.Hold, w.Reports[3].Taken, w.Window = 199, 940, 480 }, 30, 988, true},
		{func(w *api.ConeWatch) { w.Hold, w.Reports[3].Taken, w.Window = 199, 940, 480 }, 30, 989, false},
		{func(w *api.ConeWatch) { w.Hold, w.Reports[3].Taken, w.Window = 199, 940, 480 }, 30, 990, true},
		{func(w *api.ConeWatch) { w.Reports[2].Delay.High, w.Links = 200, nil }, 30, 890, true},
		{func(w *api.ConeWatch) { w.Links, w.Fall = nil, 99999 }, 30, 890, false},
	} {
		w := watchW()
		x.change(&w)
		if got, e := cone.Hoisted(w, delaysW(), 0, x.order, x.minute); e != api.OK || got != x.want {
			t.Error(i, got, e)
		}
	}
	// the last port, and the first minute
	w := watchW()
	w.Reports = []api.ConeReport{report(0, 0, 900, span(0, 5), 0, 0), report(1, 0, 0, span(0, 5), 0, 0)}
	w.Ports = append(w.Ports, api.ConePort{Order: span(0, 300)})
	for i, x := range []struct {
		order, minute int
		want          bool
	}{{0, 0, true}, {1, 0, false}, {300, 299, false}, {300, 300, true}, {300, 899, true}, {300, 900, false}} {
		if got, e := cone.Hoisted(w, []int{0, 0}, 1, x.order, x.minute); e != api.OK || got != x.want {
			t.Error(i, got, e)
		}
	}
}

// TestHoistedErrors is for P5.3.
func TestHoistedErrors(t *testing.T) {
	for i, x := range []struct{ port, order, minute int }{
		{-1, 30, 890}, {1, 30, 890}, {math.MinInt, 30, 890}, {math.MaxInt, 30, 890},
		{0, 14, 890}, {0, 46, 890}, {0, math.MinInt, 890}, {0, math.MaxInt, 890},
		{0, 30, -1}, {0, 30, 20001}, {0, 30, math.MinInt}, {0, 30, math.MaxInt},
	} {
		if got, e := cone.Hoisted(watchW(), delaysW(), x.port, x.order, x.minute); got || e != api.ErrArg {
			t.Error(i, got, e)
		}
	}
	for i, delays := range wrongDelays() {
		if got, e := cone.Hoisted(watchW(), delays, 0, 30, 890); got || e != api.ErrArg {
			t.Error(i, got, e)
		}
	}
	for i, w := range wrongWatches() {
		if got, e := cone.Hoisted(w, delaysW(), 0, 30, 890); got || e != api.ErrArg {
			t.Error(i, got, e)
		}
	}
}

// TestUp is for P5.3 and P0.5: the chapter's example, and the edges of when it surely is up, and of when it never is.
func TestUp(t *testing.T) {
	for i, x := range []struct {
		change func(*api.ConeWatch)
		minute int
		want   api.ConeWord
	}{
		{func(w *api.ConeWatch) {}, 814, never},
		{func(w *api.ConeWatch) {}, 815, may},
		{func(w *api.ConeWatch) {}, 934, may},
		{func(w *api.ConeWatch) {}, 935, surely},
		{func(w *api.ConeWatch) {}, 1454, surely},
		{func(w *api.ConeWatch) {}, 1455, may},
		{func(w *api.ConeWatch) {}, 1484, may},
		{func(w *api.ConeWatch) {}, 1485, never},
		{func(w *api.ConeWatch) {}, 0, never},
		{func(w *api.ConeWatch) {}, 20000, never},
		{func(w *api.ConeWatch) { w.Ports[0].Day, w.Ports[0].Night = 0, 0 }, 935, surely},
		{func(w *api.ConeWatch) { w.Hold = 50 }, 934, may},
		{func(w *api.ConeWatch) { w.Hold = 50 }, 935, never},
		{func(w *api.ConeWatch) { w.Links, w.Fall = nil, 99999 }, 935, never},
		{func(w *api.ConeWatch) { w.Ports[0].Order = span(45, 45) }, 935, surely},
		{func(w *api.ConeWatch) { w.Ports[0].Order = span(46, 46) }, 935, may},
		// one minute without a storm is among those that are looked at, in all truths
		{func(w *api.ConeWatch) { exact(w, 199) }, 989, may},
		{func(w *api.ConeWatch) { exact(w, 199) }, 1004, may},
		{func(w *api.ConeWatch) { exact(w, 199) }, 973, surely},
		{func(w *api.ConeWatch) { exact(w, 199) }, 974, may},
		{func(w *api.ConeWatch) { exact(w, 199) }, 1005, surely},
		{func(w *api.ConeWatch) { exact(w, 200) }, 989, surely},
		{func(w *api.ConeWatch) { exact(w, 199); w.Ports[0].Order = span(30, 30) }, 988, surely},
		{func(w *api.ConeWatch) { exact(w, 199); w.Ports[0].Order = span(30, 30) }, 989, never},
		{func(w *api.ConeWatch) { exact(w, 199); w.Ports[0].Order = span(30, 30) }, 990, surely},
	} {
		w := watchW()
		x.change(&w)
		if got, e := cone.Up(w, 0, x.minute); e != api.OK || got != x.want {
			t.Error(i, got, e)
		}
	}
	for i, x := range []struct{ port, minute int }{{-1, 935}, {1, 935}, {math.MinInt, 0}, {math.MaxInt, 0}, {0, -1}, {0, 20001}, {0, math.MinInt}, {0, math.MaxInt}} {
		if got, e := cone.Up(watchW(), x.port, x.minute); got != 0 || e != api.ErrArg {
			t.Error(i, got, e)
		}
	}
	for i, w := range wrongWatches() {
		if got, e := cone.Up(w, 0, 935); got != 0 || e != api.ErrArg {
			t.Error(i, got, e)
		}
	}
}

// exact makes the delays of the chapter's watch w known, and its reports 0 and 3 an alarm from 960 on; that of the reports 0 and 2 is seen up to 759 and Hold.
func exact(w *api.ConeWatch, hold int) {
	w.Hold, w.Reports[3].Taken, w.Window = hold, 940, 480
	for i, delay := range delaysW() {
		w.Reports[i].Delay = span(delay, delay)
	}
}

// TestUpInAllTruths is for P5.3: what is returned is what all truths of small watches show, minute by minute.
func TestUpInAllTruths(t *testing.T) {
	d := dice(20)
	counts := map[api.ConeWord]int{}
	for range 300 {
		z := d.small()
		w := d.stormy(z)
		alarms := alarmsOf(w)
		port := d.IntN(len(w.Ports))
		order := w.Ports[port].Order
		for minute := max(0, z.start-3); minute < z.start+42; minute++ {
			are, are0 := false, false
			for delays := range lists(delaySpans(w)) {
				for o := order.Low; o <= order.High; o++ {
					up := seesAt(w, alarms, delays, minute-o)
					are, are0 = are || up, are0 || !up
				}
			}
			want := wordOf(are, are0)
			if got, e := cone.Up(w, port, minute); e != api.OK || got != want {
				t.Fatal(w, port, minute, got, e, want)
			}
			counts[want]++
		}
	}
	if counts[never] < 500 || counts[may] < 500 || counts[surely] < 500 {
		t.Error("too few of a kind:", counts)
	}
}

// wordOf returns what is known of something that is so in some truth, or is not so in some.
func wordOf(are, not bool) api.ConeWord {
	switch {
	case !are:
		return never
	case not:
		return may
	}
	return surely
}

// TestUpInTruths is for P5.3 and P0.5: whatever is true of watches of all sizes, a cone is up where it surely is, and not where it never is; and it is up, by the order later, while the rule sees a storm.
func TestUpInTruths(t *testing.T) {
	d := dice(21)
	counts := map[api.ConeWord]int{}
	for range 1000 {
		w := d.stormy(d.large())
		alarms := alarmsOf(w)
		port := d.IntN(len(w.Ports))
		delays, order := d.truth(w), d.of(w.Ports[port].Order)
		a := alarms[d.IntN(len(alarms))]
		taken := max(w.Reports[a.One].Taken, w.Reports[a.Other].Taken)
		for _, minute := range []int{d.from(taken, taken+w.Hold), taken + w.Hold - 1, taken + w.Hold, d.from(taken, taken+6000)} {
			up := seesAt(w, alarms, delays, minute)
			if got, e := cone.Hoisted(w, delays, port, order, minute+order); e != api.OK || got != up {
				t.Fatal(w, delays, port, order, minute, got, e)
			}
			got, e := cone.Up(w, port, minute+order)
			if e != api.OK || got == surely && !up || got == never && up {
				t.Fatal(w, delays, port, order, minute, got, e)
			}
			counts[got]++
		}
		if first, e := cone.Play(w, delays); e == api.OK {
			before, e := cone.Hoisted(w, delays, port, order, max(0, first+order-1))
			then, _ := cone.Hoisted(w, delays, port, order, first+order)
			if e != api.OK || before && first+order > 0 || !then {
				t.Fatal(w, delays, port, order, first)
			}
		}
	}
	if counts[never] < 100 || counts[may] < 100 || counts[surely] < 100 {
		t.Error("too few of a kind:", counts)
	}
}

// TestUpAtEnds is for P5.3: that a cone may be up, or not, is so with the least delays, or with the greatest ones, and some order.
func TestUpAtEnds(t *testing.T) {
	d := dice(22)
	counts := map[api.ConeWord]int{}
	for range 600 {
		w := d.stormy(d.large())
		low, high := ends(w)
		port := d.IntN(len(w.Ports))
		can, sure, e := cone.See(w)
		if e != api.OK {
			continue
		}
		order := w.Ports[port].Order
		for _, minute := range []int{can + order.Low - 1, can + order.Low, sure + order.High - 1, sure + order.High, can + d.from(0, 3000), sure + d.from(0, 3000)} {
			if minute < 0 {
				continue
			}
			are, not := false, false
			for o := order.Low; o <= order.High; o++ {
				up, _ := cone.Hoisted(w, low, port, o, minute)
				are = are || up
				up, _ = cone.Hoisted(w, high, port, o, minute)
				not = not || !up
			}
			if got, e := cone.Up(w, port, minute); e != api.OK || got != wordOf(are, not) {
				t.Fatal(w, port, minute, got, e)
			}
			counts[wordOf(are, not)]++
		}
	}
	if counts[never] < 100 || counts[may] < 100 || counts[surely] < 100 {
		t.Error("too few of a kind:", counts)
	}
}
