package cone_test

import (
	"math"
	"slices"
	"testing"

	"isobar/api"
	"isobar/cone"
)

// greatest returns a watch with all numbers as great as they can be, and all lists as long.
func greatest() api.ConeWatch {
	return api.ConeWatch{
		Stations: 6, Fall: 99999, Window: 2880, Hold: 2880, Dawn: 1440, Dusk: 1440,
		Reports: slices.Repeat([]api.ConeReport{report(5, 10080, 99999, span(2880, 2880), 2880, 10000)}, 9),
		Links:   slices.Repeat([]api.ConeLink{{A: 5, B: 4, Diff: 99999}, {A: 4, B: 5, Diff: 99999}}, 4),
		Ports:   slices.Repeat([]api.ConePort{{Order: span(2580, 2880), Day: 50000, Night: 50000}}, 4),
	}
}

// least returns a watch with all numbers as small as they can be.
func least() api.ConeWatch {
	return api.ConeWatch{
		Stations: 1, Fall: 1, Window: 1, Hold: 1,
		Reports: []api.ConeReport{{}},
		Ports:   []api.ConePort{{}},
	}
}

// spoiled returns the watches to which some changes make the chapter's watch w.
func spoiled(changes ...func(*api.ConeWatch)) []api.ConeWatch {
	var out []api.ConeWatch
	for _, change := range changes {
		w := watchW()
		change(&w)
		out = append(out, w)
	}
	return out
}

// wrongWatches returns watches that are not as defined.
func wrongWatches() []api.ConeWatch {
	g := greatest()
	return slices.Concat(spoiled(
		func(w *api.ConeWatch) { w.Stations = 1 },
		func(w *api.ConeWatch) { w.Stations = 7 },
		func(w *api.ConeWatch) { w.Stations, w.Reports, w.Links = 0, nil, nil },
		func(w *api.ConeWatch) { w.Stations, w.Reports, w.Links = -1, nil, nil },
		func(w *api.ConeWatch) { w.Stations = math.MinInt },
		func(w *api.ConeWatch) { w.Reports = slices.Repeat(w.Reports[:1], 10) },
		func(w *api.ConeWatch) { w.Links = slices.Repeat(w.Links, 9) },
		func(w *api.ConeWatch) { w.Ports = slices.Repeat(w.Ports, 5) },
		func(w *api.ConeWatch) { w.Fall = 0 },
		func(w *api.ConeWatch) { w.Fall = 100000 },
		func(w *api.ConeWatch) { w.Window = 0 },
		func(w *api.ConeWatch) { w.Window = 2881 },
		func(w *api.ConeWatch) { w.Hold = 0 },
		func(w *api.ConeWatch) { w.Hold = 2881 },
		func(w *api.ConeWatch) { w.Dawn = -1 },
		func(w *api.ConeWatch) { w.Dawn = 1081 },
		func(w *api.ConeWatch) { w.Dusk = 359 },
		func(w *api.ConeWatch) { w.Dusk = 1441 },
		func(w *api.ConeWatch) { w.Dawn, w.Dusk = 1441, 1441 },
	), wrongReports(), spoiled(
		func(w *api.ConeWatch) { w.Links[0].A = -1 },
		func(w *api.ConeWatch) { w.Links[0].A = 2 },
		func(w *api.ConeWatch) { w.Links[0].B = -1 },
		func(w *api.ConeWatch) { w.Links[0].B = 2 },
		func(w *api.ConeWatch) { w.Links[0].B = 0 },
		func(w *api.ConeWatch) { w.Links[0].Diff = 0 },
		func(w *api.ConeWatch) { w.Links[0].Diff = 100000 },
		func(w *api.ConeWatch) { w.Links = append(slices.Repeat(w.Links, 7), api.ConeLink{A: 1, B: 1, Diff: 1}) },
		func(w *api.ConeWatch) { w.Ports[0].Order = span(-1, 10) },
		func(w *api.ConeWatch) { w.Ports[0].Order = span(11, 10) },
		func(w *api.ConeWatch) { w.Ports[0].Order = span(2580, 2881) },
		func(w *api.ConeWatch) { w.Ports[0].Order = span(2881, 2881) },
		func(w *api.ConeWatch) { w.Ports[0].Order = span(15, 316) },
		func(w *api.ConeWatch) { w.Ports[0].Order = span(math.MinInt, math.MaxInt) },
		func(w *api.ConeWatch) { w.Ports[0].Day = -1 },
		func(w *api.ConeWatch) { w.Ports[0].Day = 50001 },
		func(w *api.ConeWatch) { w.Ports[0].Night = -1 },
		func(w *api.ConeWatch) { w.Ports[0].Night = 50001 },
		func(w *api.ConeWatch) { w.Ports = append(slices.Clone(g.Ports[:3]), api.ConePort{Day: -1}) },
	))
}

// wrongReports returns watches that are not as defined, because of a report.
func wrongReports() []api.ConeWatch {
	return spoiled(
		func(w *api.ConeWatch) { w.Reports[3].Station = -1 },
		func(w *api.ConeWatch) { w.Reports[3].Station = 2 },
		func(w *api.ConeWatch) { w.Reports[0].Taken = -1 },
		func(w *api.ConeWatch) { w.Reports[0].Taken = 10081 },
		func(w *api.ConeWatch) { w.Reports[1].Pressure = -1 },
		func(w *api.ConeWatch) { w.Reports[1].Pressure = 100000 },
		func(w *api.ConeWatch) { w.Reports[2].Delay = span(-1, 5) },
		func(w *api.ConeWatch) { w.Reports[2].Delay = span(6, 5) },
		func(w *api.ConeWatch) { w.Reports[2].Delay = span(5, 2881) },
		func(w *api.ConeWatch) { w.Reports[2].Delay = span(math.MaxInt, math.MinInt) },
		func(w *api.ConeWatch) { w.Reports[3].Urgent = -1 },
		func(w *api.ConeWatch) { w.Reports[3].Urgent = 2881 },
		func(w *api.ConeWatch) { w.Reports[3].Cost = -1 },
		func(w *api.ConeWatch) { w.Reports[3].Cost = 10001 },
	)
}

// TestCheck is for P5.1.
func TestCheck(t *testing.T) {
	right := append(spoiled(
		func(w *api.ConeWatch) {},
		func(w *api.ConeWatch) { w.Reports = nil },
		func(w *api.ConeWatch) { w.Links = nil },
		func(w *api.ConeWatch) { w.Ports = nil },
		func(w *api.ConeWatch) { w.Links[0].A, w.Links[0].B = 1, 0 },
		func(w *api.ConeWatch) { w.Ports[0].Order = span(15, 315) },
		func(w *api.ConeWatch) { w.Ports[0].Day, w.Ports[0].Night = 3000, 8000 },
		func(w *api.ConeWatch) { w.Dawn, w.Dusk = 700, 700 },
		func(w *api.ConeWatch) { w.Dawn, w.Dusk = 0, 1440 },
	), greatest(), least())
	for i, w := range right {
		if e := cone.Check(w); e != api.OK {
			t.Error(i, e)
		}
	}
	for i, w := range wrongWatches() {
		if e := cone.Check(w); e != api.ErrArg {
			t.Error(i, e)
		}
	}
}

// alarm returns an alarm.
func alarm(one, other int) api.ConeAlarm { return api.ConeAlarm{One: one, Other: other} }

// TestAlarms is for P5.1: the chapter's example, and the edges of what an alarm is.
func TestAlarms(t *testing.T) {
	for i, x := range []struct {
		change func(*api.ConeWatch)
		want   []api.ConeAlarm
	}{
		{func(w *api.ConeWatch) {}, []api.ConeAlarm{alarm(0, 2), alarm(0, 3)}},
		{func(w *api.ConeWatch) { w.Fall = 350 }, []api.ConeAlarm{alarm(0, 2), alarm(0, 3)}},
		{func(w *api.ConeWatch) { w.Fall = 351 }, []api.ConeAlarm{alarm(0, 2)}},
		{func(w *api.ConeWatch) { w.Fall = 250 }, []api.ConeAlarm{alarm(0, 1), alarm(0, 2), alarm(0, 3)}},
		{func(w *api.ConeWatch) { w.Fall = 1 }, []api.ConeAlarm{alarm(0, 1), alarm(0, 2), alarm(0, 3), alarm(1, 3)}},
		{func(w *api.ConeWatch) { w.Window = 359 }, []api.ConeAlarm{alarm(0, 2)}},
		{func(w *api.ConeWatch) { w.Window = 280 }, []api.ConeAlarm{alarm(0, 2)}},
		{func(w *api.ConeWatch) { w.Window = 279 }, nil},
		{func(w *api.ConeWatch) { w.Links[0].Diff = 520 }, []api.ConeAlarm{alarm(0, 2), alarm(0, 3)}},
		{func(w *api.ConeWatch) { w.Links[0].Diff = 521 }, []api.ConeAlarm{alarm(0, 3)}},
		{func(w *api.ConeWatch) { w.Links[0].Diff = 270 }, []api.ConeAlarm{alarm(0, 2), alarm(0, 3), alarm(1, 2)}},
		{func(w *api.ConeWatch) { w.Links[0].A, w.Links[0].B = 1, 0 }, []api.ConeAlarm{alarm(0, 2), alarm(0, 3)}},
		{func(w *api.ConeWatch) { w.Links = nil }, []api.ConeAlarm{alarm(0, 3)}},
		// one alarm by several links, of which only the last one has a small Diff
		{func(w *api.ConeWatch) {
			w.Links = []api.ConeLink{{A: 0, B: 1, Diff: 500}, {A: 1, B: 0, Diff: 510}, {A: 0, B: 1, Diff: 170}}
		}, []api.ConeAlarm{alarm(0, 2), alarm(0, 3), alarm(1, 2), alarm(2, 3)}},
		// a link of other stations
		{func(w *api.ConeWatch) { w.Stations, w.Links[0].B = 3, 2 }, []api.ConeAlarm{alarm(0, 3)}},
		// the pressure of the second station is greater
		{func(w *api.ConeWatch) { w.Reports[2].Pressure = 76000 }, []api.ConeAlarm{alarm(0, 2), alarm(0, 3), alarm(1, 2), alarm(2, 3)}},
		// the later report comes first in the list
		{func(w *api.ConeWatch) { w.Reports[0], w.Reports[3] = w.Reports[3], w.Reports[0] }, []api.ConeAlarm{alarm(0, 3), alarm(2, 3)}},
		// the pressure of a station rises
		{func(w *api.ConeWatch) { w.Reports[3].Pressure = 76000 }, []api.ConeAlarm{alarm(0, 2), alarm(2, 3)}},
		// two reports of a station at once are no alarm, but two of both stations are
		{func(w *api.ConeWatch) { w.Reports[3].Taken = 480 }, []api.ConeAlarm{alarm(0, 2)}},
		{func(w *api.ConeWatch) { w.Reports[0].Taken = 840 }, []api.ConeAlarm{alarm(0, 2)}},
		{func(w *api.ConeWatch) { w.Reports[0].Taken = 760 }, []api.ConeAlarm{alarm(0, 2), alarm(0, 3)}},
		{func(w *api.ConeWatch) { w.Reports = nil }, nil},
		{func(w *api.ConeWatch) { w.Reports = w.Reports[:1] }, nil},
	} {
		w := watchW()
		x.change(&w)
		if got, e := cone.Alarms(w); e != api.OK || !slices.Equal(got, x.want) {
			t.Error(i, got, e)
		}
	}
}

// TestPlay is for P5.1: the chapter's example, and the edges of when a storm is seen.
func TestPlay(t *testing.T) {
	for i, x := range []struct {
		change func(*api.ConeWatch)
		delays []int
		want   int
		e      api.Errno
	}{
		{func(w *api.ConeWatch) {}, delaysW(), 860, api.OK},
		{func(w *api.ConeWatch) {}, []int{20, 30, 40, 10}, 800, api.OK},
		{func(w *api.ConeWatch) {}, []int{60, 90, 200, 50}, 890, api.OK},
		{func(w *api.ConeWatch) {}, []int{20, 30, 100, 20}, 860, api.OK},
		{func(w *api.ConeWatch) {}, []int{20, 30, 99, 20}, 859, api.OK},
		// a report that was taken first comes last
		{func(w *api.ConeWatch) { w.Reports[0].Delay = span(0, 2880) }, []int{500, 90, 200, 50}, 980, api.OK},
		// it comes too late
		{func(w *api.ConeWatch) { w.Reports[0].Delay = span(0, 2880) }, []int{959, 90, 200, 50}, 1439, api.OK},
		{func(w *api.ConeWatch) { w.Reports[0].Delay = span(0, 2880) }, []int{960, 90, 200, 50}, 0, api.ErrNone},
		{func(w *api.ConeWatch) { w.Hold = 51 }, []int{60, 90, 200, 50}, 890, api.OK},
		{func(w *api.ConeWatch) { w.Hold = 50 }, []int{60, 90, 200, 50}, 0, api.ErrNone},
		// the first alarm has passed when its report comes, the second one is seen
		{func(w *api.ConeWatch) { w.Hold = 80 }, []int{60, 90, 80, 50}, 890, api.OK},
		{func(w *api.ConeWatch) { w.Hold = 80 }, []int{60, 90, 79, 50}, 839, api.OK},
		{func(w *api.ConeWatch) { w.Hold = 1; w.Reports[3].Delay = span(0, 50) }, []int{20, 30, 40, 0}, 840, api.OK},
		{func(w *api.ConeWatch) { w.Hold = 1; w.Reports[3].Delay = span(0, 50) }, []int{20, 30, 40, 1}, 0, api.ErrNone},
		{func(w *api.ConeWatch) { w.Fall, w.Links = 99999, nil }, delaysW(), 0, api.ErrNone},
		{func(w *api.ConeWatch) { w.Reports = nil }, nil, 0, api.ErrNone},
		{func(w *api.ConeWatch) { w.Reports = nil }, []int{}, 0, api.ErrNone},
		{func(w *api.ConeWatch) { w.Reports = nil }, []int{0}, 0, api.ErrArg},
		{func(w *api.ConeWatch) { w.Hold = 0 }, delaysW(), 0, api.ErrArg},
		// the first minute of all, and the last one
		{func(w *api.ConeWatch) {
			w.Reports = []api.ConeReport{report(0, 0, 900, span(0, 0), 0, 0), report(1, 0, 0, span(0, 0), 0, 0)}
		}, []int{0, 0}, 0, api.OK},
		{func(w *api.ConeWatch) {
			w.Hold = 2880
			w.Reports = []api.ConeReport{report(0, 10080, 900, span(0, 2880), 0, 0), report(1, 10080, 0, span(0, 2880), 0, 0)}
		}, []int{2879, 2879}, 12959, api.OK},
	} {
		w := watchW()
		x.change(&w)
		if got, e := cone.Play(w, x.delays); e != x.e || got != x.want {
			t.Error(i, got, e)
		}
	}
}

// wrongDelays returns lists that are no delays of the chapter's watch w.
func wrongDelays() [][]int {
	return [][]int{
		nil, {40, 60, 150}, {40, 60, 150, 20, 20},
		{19, 60, 150, 20}, {61, 60, 150, 20}, {40, 29, 150, 20}, {40, 91, 150, 20},
		{40, 60, 150, 9}, {40, 60, 150, 51}, {40, 60, math.MinInt, 20}, {40, 60, math.MaxInt, 20},
	}
}

// TestPlayErrors is for P5.1.
func TestPlayErrors(t *testing.T) {
	for i, delays := range wrongDelays() {
		if got, e := cone.Play(watchW(), delays); got != 0 || e != api.ErrArg {
			t.Error(i, got, e)
		}
	}
	for i, w := range wrongWatches() {
		if got, e := cone.Alarms(w); got != nil || e != api.ErrArg {
			t.Error(i, got, e)
		}
		if got, e := cone.Play(w, delaysW()); got != 0 || e != api.ErrArg {
			t.Error(i, got, e)
		}
	}
}

// TestAlarmsOfMany is for P5.1: alarms of random watches are those that the chapter's definition names.
func TestAlarmsOfMany(t *testing.T) {
	d := dice(1)
	some := 0
	for i := range 6000 {
		z := d.small()
		if i%2 == 0 {
			z = d.large()
		}
		w := d.watch(z)
		got, e := cone.Alarms(w)
		if e != api.OK || !slices.Equal(got, alarmsOf(w)) {
			t.Fatal(w, got, e)
		}
		if len(got) > 1 {
			some++
		}
	}
	if some < 1500 {
		t.Error("too few have alarms:", some)
	}
}

// TestPlayOfMany is for P5.1: first sights of random watches are found minute by minute.
func TestPlayOfMany(t *testing.T) {
	d := dice(2)
	counts := map[bool]int{}
	for range 4000 {
		z := d.small()
		w := d.watch(z)
		delays := d.truth(w)
		got, e := cone.Play(w, delays)
		want := sightIn(w, delays, 0, 14000)
		if want == unseen && (e != api.ErrNone || got != 0) || want != unseen && (e != api.OK || got != want) {
			t.Fatal(w, delays, got, e, want)
		}
		counts[e == api.OK]++
	}
	if counts[true] < 800 || counts[false] < 800 {
		t.Error("too few of a kind:", counts)
	}
}
