package cone_test

import (
	"testing"

	"isobar/api"
	"isobar/cone"
)

// TestSee is for P5.2 and P0.5: the chapter's example, and the edges of what is seen surely.
func TestSee(t *testing.T) {
	for i, x := range []struct {
		change    func(*api.ConeWatch)
		can, sure int
		e         api.Errno
	}{
		{func(w *api.ConeWatch) {}, 800, 890, api.OK},
		// the alarm that can be seen first is not the one that surely is
		{func(w *api.ConeWatch) { w.Links = nil }, 850, 890, api.OK},
		{func(w *api.ConeWatch) { w.Fall = 400 }, 800, 960, api.OK},
		// all reports come too late in some truth, but not in all
		{func(w *api.ConeWatch) { w.Hold = 51 }, 800, 890, api.OK},
		{func(w *api.ConeWatch) { w.Hold = 50 }, 800, -1, api.OK},
		{func(w *api.ConeWatch) { w.Hold = 41 }, 800, -1, api.OK},
		{func(w *api.ConeWatch) { w.Hold = 40 }, 850, -1, api.OK},
		{func(w *api.ConeWatch) { w.Hold = 11 }, 850, -1, api.OK},
		{func(w *api.ConeWatch) { w.Hold = 10 }, 0, 0, api.ErrNone},
		{func(w *api.ConeWatch) { w.Hold = 201; w.Reports[3].Delay.High = 2880 }, 800, 960, api.OK},
		{func(w *api.ConeWatch) { w.Hold = 200; w.Reports[3].Delay.High = 2880 }, 800, -1, api.OK},
		{func(w *api.ConeWatch) { w.Fall, w.Links = 99999, nil }, 0, 0, api.ErrNone},
		{func(w *api.ConeWatch) { w.Reports = nil }, 0, 0, api.ErrNone},
		// the minute 0 is no zero value
		{func(w *api.ConeWatch) {
			w.Reports = []api.ConeReport{report(0, 0, 900, span(0, 0), 0, 0), report(1, 0, 0, span(0, 0), 0, 0)}
		}, 0, 0, api.OK},
		{func(w *api.ConeWatch) {
			w.Reports = []api.ConeReport{report(0, 0, 900, span(0, 0), 0, 0), report(1, 0, 0, span(0, 600), 0, 0)}
		}, 0, -1, api.OK},
	} {
		w := watchW()
		x.change(&w)
		can, sure, e := cone.See(w)
		if e != x.e || can != x.can || sure != x.sure {
			t.Error(i, can, sure, e)
		}
	}
	for i, w := range wrongWatches() {
		if can, sure, e := cone.See(w); can != 0 || sure != 0 || e != api.ErrArg {
			t.Error(i, can, sure, e)
		}
	}
}

// TestSeeInAllTruths is for P5.2: what is returned is what all truths of small watches show.
func TestSeeInAllTruths(t *testing.T) {
	d := dice(10)
	kinds := map[string]int{}
	for range 2000 {
		z := d.small()
		w := d.watch(z)
		first, last, lacking := unseen, -1, false
		for delays := range lists(delaySpans(w)) {
			minute := sightIn(w, delays, z.start, z.start+50)
			if minute == unseen {
				lacking = true
				continue
			}
			first, last = min(first, minute), max(last, minute)
		}
		can, sure, e := cone.See(w)
		kind := "seen"
		switch {
		case first == unseen:
			kind, first, last = "never", 0, 0
		case lacking:
			kind, last = "lacking", -1
		case first == last:
			kind = "at once"
		}
		if (e == api.ErrNone) != (kind == "never") || e != api.OK && e != api.ErrNone || can != first || sure != last {
			t.Fatal(w, can, sure, e, first, last, kind)
		}
		kinds[kind]++
	}
	for _, kind := range []string{"seen", "never", "lacking", "at once"} {
		if kinds[kind] < 80 {
			t.Error("too few of a kind:", kind, kinds)
		}
	}
}

// TestSeeInTruths is for P5.2: whatever the delays of watches of all sizes are, no storm is seen before it can be, and one has been seen when it surely has; both are so in some truth.
func TestSeeInTruths(t *testing.T) {
	d := dice(11)
	kinds := map[string]int{}
	for range 3000 {
		w := d.watch(d.large())
		can, sure, e := cone.See(w)
		for range 5 {
			minute, played := cone.Play(w, d.truth(w))
			if played == api.OK && (e != api.OK || minute < can || sure != -1 && minute > sure) {
				t.Fatal(w, can, sure, e, minute)
			}
			if played == api.ErrNone && e == api.OK && sure != -1 {
				t.Fatal(w, can, sure, e)
			}
		}
		low, high := ends(w)
		if minute, played := cone.Play(w, low); played != e || minute != can {
			t.Fatal(w, can, sure, e, minute)
		}
		minute, played := cone.Play(w, high)
		if e == api.OK && (played == api.OK && minute != sure || played == api.ErrNone && sure != -1) {
			t.Fatal(w, can, sure, minute, played)
		}
		switch {
		case e == api.ErrNone:
			kinds["never"]++
		case sure == -1:
			kinds["lacking"]++
		case sure > can:
			kinds["seen"]++
		}
	}
	for _, kind := range []string{"never", "lacking", "seen"} {
		if kinds[kind] < 100 {
			t.Error("too few of a kind:", kind, kinds)
		}
	}
}
