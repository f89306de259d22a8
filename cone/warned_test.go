package cone_test

import (
	"math"
	"testing"

	"isobar/api"
	"isobar/cone"
)

// TestSeen is for P5.4: when a boat leaves, by day or by night, and how far it is away.
func TestSeen(t *testing.T) {
	for i, x := range []struct {
		change             func(*api.ConeWatch)
		order, leave, away int
		want               bool
	}{
		{func(w *api.ConeWatch) {}, 30, 889, 0, false},
		{func(w *api.ConeWatch) {}, 30, 890, 0, true},
		{func(w *api.ConeWatch) {}, 30, 890, 8000, true},
		{func(w *api.ConeWatch) {}, 30, 890, 8001, false},
		{func(w *api.ConeWatch) {}, 31, 890, 8000, false},
		// dusk is by night
		{func(w *api.ConeWatch) {}, 30, 1079, 8000, true},
		{func(w *api.ConeWatch) {}, 30, 1080, 8000, false},
		{func(w *api.ConeWatch) {}, 30, 1080, 3000, true},
		{func(w *api.ConeWatch) {}, 30, 1080, 3001, false},
		{func(w *api.ConeWatch) {}, 30, 1469, 3000, true},
		{func(w *api.ConeWatch) {}, 30, 1470, 3000, false},
		// dawn is by day, on the next day, too
		{func(w *api.ConeWatch) { w.Hold = 1440 }, 30, 1799, 3001, false},
		{func(w *api.ConeWatch) { w.Hold = 1440 }, 30, 1800, 3001, true},
		{func(w *api.ConeWatch) { w.Dawn = 0 }, 30, 1440, 8000, true},
		{func(w *api.ConeWatch) { w.Dawn = 0 }, 30, 1439, 8000, false},
		{func(w *api.ConeWatch) { w.Dawn, w.Dusk = 0, 1440 }, 30, 1439, 8000, true},
		{func(w *api.ConeWatch) { w.Dawn, w.Dusk = 0, 0 }, 30, 1440, 8000, false},
		{func(w *api.ConeWatch) { w.Dawn, w.Dusk = 900, 900 }, 30, 900, 3001, false},
		{func(w *api.ConeWatch) { w.Dawn, w.Dusk = 900, 901 }, 30, 900, 3001, true},
		{func(w *api.ConeWatch) { w.Dawn, w.Dusk = 1440, 1440 }, 30, 1439, 3001, false},
		// lamps are seen from further away than the cone
		{func(w *api.ConeWatch) { w.Ports[0].Night = 50000 }, 30, 1080, 50000, true},
		{func(w *api.ConeWatch) { w.Ports[0].Night = 50000 }, 30, 1079, 50000, false},
		{func(w *api.ConeWatch) { w.Ports[0].Day = 0 }, 30, 890, 0, true},
		{func(w *api.ConeWatch) { w.Ports[0].Day = 0 }, 30, 890, 1, false},
	} {
		w := watchW()
		x.change(&w)
		if got, e := cone.Seen(w, delaysW(), 0, x.order, x.leave, x.away); e != api.OK || got != x.want {
			t.Error(i, got, e)
		}
	}
}

// TestSeenErrors is for P5.4.
func TestSeenErrors(t *testing.T) {
	for i, x := range []struct{ port, order, leave, away int }{
		{-1, 30, 890, 0}, {1, 30, 890, 0}, {math.MinInt, 30, 890, 0}, {math.MaxInt, 30, 890, 0},
		{0, 14, 890, 0}, {0, 46, 890, 0}, {0, math.MinInt, 890, 0}, {0, math.MaxInt, 890, 0},
		{0, 30, -1, 0}, {0, 30, 20001, 0}, {0, 30, math.MinInt, 0}, {0, 30, math.MaxInt, 0},
		{0, 30, 890, -1}, {0, 30, 890, 50001}, {0, 30, 890, math.MinInt}, {0, 30, 890, math.MaxInt},
	} {
		if got, e := cone.Seen(watchW(), delaysW(), x.port, x.order, x.leave, x.away); got || e != api.ErrArg {
			t.Error(i, got, e)
		}
	}
	for i, delays := range wrongDelays() {
		if got, e := cone.Seen(watchW(), delays, 0, 30, 890, 0); got || e != api.ErrArg {
			t.Error(i, got, e)
		}
	}
	for i, w := range wrongWatches() {
		if got, e := cone.Seen(w, delaysW(), 0, 30, 890, 0); got || e != api.ErrArg {
			t.Error(i, got, e)
		}
	}
	for i, x := range []struct{ leave, away int }{{0, 0}, {20000, 50000}} {
		if got, e := cone.Seen(watchW(), delaysW(), 0, 30, x.leave, x.away); got || e != api.OK {
			t.Error(i, got, e)
		}
	}
}

// TestWarned is for P5.4 and P0.5: the chapter's example, and the edges of who surely is warned, and who never is.
func TestWarned(t *testing.T) {
	for i, x := range []struct {
		change func(*api.ConeWatch)
		b      api.ConeBoat
		want   api.ConeWord
	}{
		{func(w *api.ConeWatch) {}, boat(span(940, 960), span(1000, 2500)), surely},
		{func(w *api.ConeWatch) {}, boat(span(1060, 1100), span(2000, 5000)), may},
		{func(w *api.ConeWatch) {}, boat(span(1100, 1110), span(3001, 4000)), never},
		// when it leaves
		{func(w *api.ConeWatch) {}, boat(span(935, 1079), span(0, 8000)), surely},
		{func(w *api.ConeWatch) {}, boat(span(934, 1079), span(0, 8000)), may},
		{func(w *api.ConeWatch) {}, boat(span(1080, 1380), span(0, 3000)), surely},
		{func(w *api.ConeWatch) {}, boat(span(1154, 1454), span(0, 3000)), surely},
		{func(w *api.ConeWatch) {}, boat(span(1155, 1455), span(0, 3000)), may},
		{func(w *api.ConeWatch) {}, boat(span(514, 814), span(0, 0)), never},
		{func(w *api.ConeWatch) {}, boat(span(515, 815), span(0, 0)), may},
		{func(w *api.ConeWatch) {}, boat(span(1484, 1784), span(0, 0)), may},
		{func(w *api.ConeWatch) {}, boat(span(1485, 1785), span(0, 0)), never},
		// how far it is away
		{func(w *api.ConeWatch) {}, boat(span(940, 960), span(0, 8001)), may},
		{func(w *api.ConeWatch) {}, boat(span(940, 960), span(8000, 8000)), surely},
		{func(w *api.ConeWatch) {}, boat(span(940, 960), span(8000, 50000)), may},
		{func(w *api.ConeWatch) {}, boat(span(940, 960), span(8001, 50000)), never},
		{func(w *api.ConeWatch) {}, boat(span(1079, 1080), span(3000, 3000)), surely},
		{func(w *api.ConeWatch) {}, boat(span(1079, 1080), span(3001, 3001)), may},
		{func(w *api.ConeWatch) {}, boat(span(1080, 1080), span(3001, 3001)), never},
		{func(w *api.ConeWatch) {}, boat(span(1079, 1080), span(8000, 8001)), may},
		{func(w *api.ConeWatch) {}, boat(span(1079, 1080), span(8001, 8001)), never},
		// it is near enough only while the cone is down
		{func(w *api.ConeWatch) { w.Dusk = 814 }, boat(span(700, 900), span(3001, 8000)), never},
		{func(w *api.ConeWatch) { w.Dusk = 815 }, boat(span(700, 900), span(3001, 8000)), never},
		{func(w *api.ConeWatch) { w.Dusk = 816 }, boat(span(700, 900), span(3001, 8000)), may},
		{func(w *api.ConeWatch) { w.Dawn = 45 }, boat(span(1400, 1600), span(8000, 8000)), never},
		{func(w *api.ConeWatch) { w.Dawn = 44 }, boat(span(1400, 1600), span(8000, 8000)), may},
		{func(w *api.ConeWatch) { w.Ports[0].Day, w.Ports[0].Night = 3000, 8000 }, boat(span(1079, 1080), span(3001, 8000)), may},
		{func(w *api.ConeWatch) { w.Ports[0].Day, w.Ports[0].Night = 3000, 8000 }, boat(span(1080, 1090), span(3001, 8000)), surely},
		// no storm is seen at one minute
		{func(w *api.ConeWatch) { exact(w, 199) }, boat(span(974, 974), span(0, 0)), may},
		{func(w *api.ConeWatch) { exact(w, 200) }, boat(span(940, 1100), span(0, 0)), may},
		{func(w *api.ConeWatch) { exact(w, 200) }, boat(span(955, 1100), span(0, 0)), surely},
		{func(w *api.ConeWatch) { exact(w, 199) }, boat(span(955, 1100), span(0, 0)), may},
		{func(w *api.ConeWatch) { exact(w, 199) }, boat(span(955, 973), span(0, 0)), surely},
		{func(w *api.ConeWatch) { exact(w, 199); w.Ports[0].Order = span(30, 30) }, boat(span(989, 989), span(0, 0)), never},
		{func(w *api.ConeWatch) { w.Reports = nil }, boat(span(940, 960), span(0, 0)), never},
		// the ends of what can be asked
		{func(w *api.ConeWatch) {}, boat(span(0, 0), span(0, 0)), never},
		{func(w *api.ConeWatch) {}, boat(span(19700, 20000), span(50000, 50000)), never},
	} {
		w := watchW()
		x.change(&w)
		if got, e := cone.Warned(w, 0, x.b); e != api.OK || got != x.want {
			t.Error(i, got, e)
		}
	}
}

// TestWarnedErrors is for P5.4.
func TestWarnedErrors(t *testing.T) {
	for i, b := range []api.ConeBoat{
		boat(span(-1, 5), span(0, 0)), boat(span(6, 5), span(0, 0)), boat(span(19990, 20001), span(0, 0)),
		boat(span(600, 901), span(0, 0)), boat(span(0, 20000), span(0, 0)), boat(span(math.MinInt, math.MaxInt), span(0, 0)),
		boat(span(math.MaxInt, math.MinInt), span(0, 0)),
		boat(span(940, 960), span(-1, 5)), boat(span(940, 960), span(6, 5)), boat(span(940, 960), span(5, 50001)),
		boat(span(940, 960), span(math.MinInt, math.MaxInt)),
	} {
		if got, e := cone.Warned(watchW(), 0, b); got != 0 || e != api.ErrArg {
			t.Error(i, got, e)
		}
	}
	right := boat(span(940, 960), span(1000, 2500))
	for i, port := range []int{-1, 1, math.MinInt, math.MaxInt} {
		if got, e := cone.Warned(watchW(), port, right); got != 0 || e != api.ErrArg {
			t.Error(i, got, e)
		}
	}
	for i, w := range wrongWatches() {
		if got, e := cone.Warned(w, 0, right); got != 0 || e != api.ErrArg {
			t.Error(i, got, e)
		}
	}
}

// boat returns a random boat that leaves about some minute.
func (d dicer) boat(minute, leaveWide, away, awayWide int) api.ConeBoat {
	low := max(0, min(20000, minute))
	return boat(span(low, min(20000, low+d.from(0, leaveWide))), d.within(away, awayWide))
}

// TestWarnedInAllTruths is for P5.4: what is returned is what all truths of small watches, and all boats, show.
func TestWarnedInAllTruths(t *testing.T) {
	d := dice(30)
	counts := map[api.ConeWord]int{}
	for range 4000 {
		z := d.small()
		w := d.stormy(z)
		if d.IntN(2) == 0 {
			w.Dawn, w.Dusk = (z.start+d.from(5, 25))%1440, 1440
		}
		port := d.IntN(len(w.Ports))
		b := d.boat(z.start+d.from(-2, 30), 4, 5, 2)
		are, not := false, false
		for truth := range lists(append(delaySpans(w), w.Ports[port].Order, b.Leave, b.Away)) {
			n := len(w.Reports)
			is := isWarned(w, truth[:n], port, truth[n], truth[n+1], truth[n+2])
			are, not = are || is, not || !is
			if are && not {
				break
			}
		}
		want := wordOf(are, not)
		if got, e := cone.Warned(w, port, b); e != api.OK || got != want {
			t.Fatal(w, port, b, got, e, want)
		}
		counts[want]++
	}
	if counts[never] < 200 || counts[may] < 200 || counts[surely] < 50 {
		t.Error("too few of a kind:", counts)
	}
}

// TestWarnedInTruths is for P5.4 and P0.5: whatever is true, a boat that surely is warned sees the cone, or the lamps, and one that never is does not; and what Seen returns is as the chapter says.
func TestWarnedInTruths(t *testing.T) {
	d := dice(31)
	counts, seen := map[api.ConeWord]int{}, map[bool]int{}
	for range 2500 {
		w := d.stormy(d.large())
		port := d.IntN(len(w.Ports))
		p := w.Ports[port]
		a := alarmsOf(w)[0]
		taken := max(w.Reports[a.One].Taken, w.Reports[a.Other].Taken)
		b := d.boat(taken+p.Order.Low+d.from(0, w.Hold+300), d.among(0, 30, 300), d.among(p.Day, p.Night, 50000), d.among(0, 1000, 50000))
		got, e := cone.Warned(w, port, b)
		if e != api.OK {
			t.Fatal(w, port, b, e)
		}
		counts[got]++
		for range 10 {
			delays, order, leave, away := d.truth(w), d.of(p.Order), d.of(b.Leave), d.of(b.Away)
			is, e := cone.Seen(w, delays, port, order, leave, away)
			if e != api.OK || is != isWarned(w, delays, port, order, leave, away) {
				t.Fatal(w, delays, port, order, leave, away, is, e)
			}
			if is && got == never || !is && got == surely {
				t.Fatal(w, delays, port, order, leave, away, is, got)
			}
			seen[is]++
		}
	}
	if counts[never] < 300 || counts[may] < 300 || counts[surely] < 50 || seen[true] < 2000 || seen[false] < 2000 {
		t.Error("too few of a kind:", counts, seen)
	}
}

// TestWarnedAtEnds is for P5.4: that a boat may be warned, or not, is so with the least delays, or with the greatest ones, for some order and some minute.
func TestWarnedAtEnds(t *testing.T) {
	d := dice(32)
	counts := map[api.ConeWord]int{}
	for range 1000 {
		w := d.stormy(d.large())
		low, high := ends(w)
		port := d.IntN(len(w.Ports))
		p := &w.Ports[port]
		p.Order.High = min(p.Order.High, p.Order.Low+d.among(0, 20))
		a := alarmsOf(w)[0]
		taken := max(w.Reports[a.One].Taken, w.Reports[a.Other].Taken)
		b := d.boat(taken+p.Order.Low+d.from(0, w.Hold), d.among(0, 30), d.among(p.Day, p.Night, 50000), d.among(0, 1000, 50000))
		are, not := false, false
		for list := range lists([]api.Span{p.Order, b.Leave}) {
			is, _ := cone.Seen(w, low, port, list[0], list[1], b.Away.Low)
			are = are || is
			is, _ = cone.Seen(w, high, port, list[0], list[1], b.Away.High)
			not = not || !is
		}
		got, e := cone.Warned(w, port, b)
		if e != api.OK || got != wordOf(are, not) {
			t.Fatal(w, port, b, got, e)
		}
		counts[got]++
	}
	if counts[never] < 50 || counts[may] < 50 || counts[surely] < 20 {
		t.Error("too few of a kind:", counts)
	}
}
