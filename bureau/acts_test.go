package bureau_test

import (
	"math"
	"slices"
	"strings"
	"testing"

	"isobar/api"
	"isobar/bureau"
)

// readingS returns the reading of the chapter's script.
func readingS() api.GlassReading {
	return api.GlassReading{Minute: 480, Clock: api.GlassRail, Mercury: 76000}
}

// clean and garbled are copies of the chapter's script.
func clean() []string   { return []string{"75810", "27030", "92840"} }
func garbled() []string { return []string{"75310", "27030", "92840"} }

// refused reports an act that does not return an error, or that changes something.
func refused(t *testing.T, b *bureau.Bureau, want api.Errno, name string, act func() api.Errno) {
	t.Helper()
	before := seen(t, suiteS(), b)
	if e := act(); e != want {
		t.Error(name, e, want)
	}
	if after := seen(t, suiteS(), b); after != before {
		t.Error(name, "changed", before, after)
	}
}

// refuseAll reports acts with arguments that are not as defined that are not refused.
func refuseAll(t *testing.T, b *bureau.Bureau) {
	t.Helper()
	for _, station := range []int{-1, 2, math.MaxInt, math.MinInt} {
		refused(t, b, api.ErrArg, "read", func() api.Errno { return b.Read(station, readingS()) })
		refused(t, b, api.ErrArg, "wire", func() api.Errno { return b.Wire(station, 0, [][]string{clean()}) })
	}
	for i, change := range []func(*api.GlassReading){
		func(r *api.GlassReading) { r.Day = -1 }, func(r *api.GlassReading) { r.Day = 2 }, func(r *api.GlassReading) { r.Day = 400 },
		func(r *api.GlassReading) { r.Minute = -1 }, func(r *api.GlassReading) { r.Minute = 1440 },
		func(r *api.GlassReading) { r.Clock = 0 }, func(r *api.GlassReading) { r.Clock = 4 },
		func(r *api.GlassReading) { r.Mercury = 39999 }, func(r *api.GlassReading) { r.Mercury = 90001 },
		func(r *api.GlassReading) { r.Attached = span(1, 0) }, func(r *api.GlassReading) { r.Attached = span(-301, 0) },
		func(r *api.GlassReading) { r.Dry = span(0, 501) }, func(r *api.GlassReading) { r.Wet = span(1, 0) },
	} {
		r := readingS()
		change(&r)
		refused(t, b, api.ErrArg, "read "+text(i), func() api.Errno { return b.Read(0, r) })
	}
	for _, day := range []int{-1, 2, math.MaxInt, math.MinInt} {
		refused(t, b, api.ErrArg, "wire", func() api.Errno { return b.Wire(0, day, [][]string{clean()}) })
		refused(t, b, api.ErrArg, "ship", func() api.Errno { return b.Ship(0, day, 0, span(75900, 76000)) })
		refused(t, b, api.ErrArg, "state", func() api.Errno { return b.State(day, 0, []int{100, 0, 0}) })
		refused(t, b, api.ErrArg, "came", func() api.Errno { return b.Came(day, 0, 1) })
	}
	for i, copies := range [][][]string{
		nil, {}, {nil}, {{}}, {clean(), nil}, {clean(), clean(), clean(), clean()}, {clean()[:2]}, {append(clean(), "92840")},
		{{"7581", "27030", "92840"}}, {{"75810", "27030", "928400"}}, {{"75810", "2703a", "92840"}}, {{"75810", "", "92840"}},
		{{"???10", "27030", "92840"}}, {{"7?810", "2?030", "9?840"}}, {clean(), {"75810", "27030", "9284x"}}, {{"75810", "27030", "9284\n"}}, {{"75810 27030 92840"}}, {{"75810.27030.92840"}},
	} {
		refused(t, b, api.ErrArg, "wire "+text(i), func() api.Errno { return b.Wire(0, 0, copies) })
	}
	for _, number := range []int{-1, 100, math.MaxInt, math.MinInt} {
		refused(t, b, api.ErrArg, "ship", func() api.Errno { return b.Ship(number, 0, 0, span(75900, 76000)) })
	}
	for _, point := range []int{-1, 4, math.MaxInt, math.MinInt} {
		refused(t, b, api.ErrArg, "ship", func() api.Errno { return b.Ship(0, 0, point, span(75900, 76000)) })
	}
	for _, p := range []api.Span{span(-1, 76000), span(76001, 76000), span(75900, 100000), span(100000, 100000), span(math.MinInt, math.MaxInt), span(0, math.MaxInt)} {
		refused(t, b, api.ErrArg, "ship", func() api.Errno { return b.Ship(0, 0, 0, p) })
	}
	refuseForecasts(t, b)
}

// refuseForecasts reports reports, parts and sets that are not as defined that are not refused.
func refuseForecasts(t *testing.T, b *bureau.Bureau) {
	t.Helper()
	for i, r := range []api.ConeReport{
		{Station: -1}, {Station: 2}, {Taken: -1}, {Taken: 10081}, {Pressure: -1}, {Pressure: 100000},
		{Delay: span(-1, 0)}, {Delay: span(1, 0)}, {Delay: span(0, 2881)}, {Urgent: -1}, {Urgent: 2881}, {Cost: -1}, {Cost: 10001},
	} {
		refused(t, b, api.ErrArg, "report "+text(i), func() api.Errno { return b.Report(r) })
	}
	for _, district := range []int{-1, 2, math.MaxInt, math.MinInt} {
		refused(t, b, api.ErrArg, "state", func() api.Errno { return b.State(0, district, []int{100, 0, 0}) })
		refused(t, b, api.ErrArg, "came", func() api.Errno { return b.Came(0, district, 1) })
	}
	for i, parts := range [][]int{nil, {}, {100}, {50, 50}, {25, 25, 25, 25}, {50, 50, 1}, {50, 49, 0}, {101, -1, 0}, {100, 1, -1}, {math.MaxInt, math.MinInt, 101}, {0, 0, 0}} {
		refused(t, b, api.ErrArg, "state "+text(i), func() api.Errno { return b.State(0, 0, parts) })
	}
	for _, set := range []int{0, -1, 8, 9, math.MaxInt, math.MinInt} {
		refused(t, b, api.ErrArg, "came "+text(set), func() api.Errno { return b.Came(0, 0, set) })
	}
}

// TestWrongActs is for P10.2, P10.4 and P10.5: acts that are not as defined are refused, and change nothing, whether something could be done or not.
func TestWrongActs(t *testing.T) {
	refuseAll(t, opened(t, suiteS()))
	// all that could be done was done, so that ErrArg must come before ErrState
	b := opened(t, suiteS())
	doAll(t, b, filling()...)
	refuseAll(t, b)
}

// filling returns as many lines as there can be, after which both maps are full, the watch is, and all is stated and came.
func filling() []string {
	var lines []string
	for day := range 2 {
		for district := range 2 {
			lines = append(lines, "state "+text(day, district)+" 50 30 20", "came "+text(day, district)+" 7")
		}
		for ship := range 12 {
			lines = append(lines, "ship "+text(ship, day, ship%4)+" 75900 76000")
		}
	}
	for i := range 9 {
		lines = append(lines, "report 0 "+text(480+60*i)+" 75500 20 60 10 5")
	}
	return lines
}

// TestFull is for P10.2, P10.4 and P10.5: a map with 12 stations takes no more, a watch with 9 reports does not, and nothing is stated, or comes, twice.
func TestFull(t *testing.T) {
	b := opened(t, suiteS())
	doAll(t, b, filling()...)
	for day := range 2 {
		r := readingS()
		r.Day = day
		refused(t, b, api.ErrState, "read", func() api.Errno { return b.Read(0, r) })
		// the error of a full map comes before that of what is refused
		r.Mercury = 80000
		refused(t, b, api.ErrState, "read", func() api.Errno { return b.Read(0, r) })
		refused(t, b, api.ErrState, "wire", func() api.Errno { return b.Wire(0, day, [][]string{clean()}) })
		refused(t, b, api.ErrState, "wire", func() api.Errno {
			return b.Wire(0, day, [][]string{clean(), {"75810", "27031", "92840"}})
		})
		refused(t, b, api.ErrState, "ship", func() api.Errno { return b.Ship(99, day, 0, span(75900, 76000)) })
		refused(t, b, api.ErrState, "ship", func() api.Errno { return b.Ship(0, day, 0, span(75900, 76000)) })
		for district := range 2 {
			refused(t, b, api.ErrState, "state", func() api.Errno { return b.State(day, district, []int{50, 30, 20}) })
			refused(t, b, api.ErrState, "came", func() api.Errno { return b.Came(day, district, 7) })
		}
	}
	refused(t, b, api.ErrState, "report", func() api.Errno { return b.Report(api.ConeReport{}) })
	// the reports that a watch has from the beginning count
	s := suiteS()
	for i := range 10 {
		b := opened(t, s)
		want := api.OK
		if i == 9 {
			want = api.ErrState
		}
		if e := b.Report(api.ConeReport{}); e != want {
			t.Error(i, e)
		}
		if i < 9 {
			s.Watch.Reports = append(s.Watch.Reports, api.ConeReport{})
		}
	}
}

// TestSixtyActs is for P10.2, P10.4 and P10.5: all acts together are 60 at most; those that were refused do not count.
func TestSixtyActs(t *testing.T) {
	s := suiteS()
	s.Days = 4
	lines := filling()
	for ship := range 12 {
		lines = append(lines, "ship "+text(ship, 2, 3)+" 75900 76000", "ship "+text(ship, 3, 3)+" 75900 76000")
	}
	b := opened(t, s)
	for _, line := range lines[:60] {
		if e := b.Came(3, 1, 7); e != api.ErrRule {
			t.Fatal(e)
		}
		doAll(t, b, line)
	}
	for _, line := range []string{
		"read 0 3 480 1 76000 0 0 0 0 0 0", "wire 0 3 75810.27030.92840", "ship 99 3 0 75900 76000", "report 0 480 75500 20 60 10 5", "state 3 0 100 0 0", "came 3 0 7",
		// what would be refused, too
		"read 0 3 480 1 90000 0 0 0 0 0 0", "ship 0 3 0 0 0",
	} {
		if got := answered(b.Do(line)); got != "error 6" {
			t.Error(line, got)
		}
	}
	for _, line := range []string{"read 0 4 480 1 76000 0 0 0 0 0 0", "wire 0 0 x", "ship 100 0 0 0 0", "report 2 0 0 0 0 0 0", "state 0 2 100 0 0", "came 0 0 0"} {
		if got := answered(b.Do(line)); got != "error 2" {
			t.Error(line, got)
		}
	}
	if got := strings.Count(journalOf(t, b), "\n"); got != 60 {
		t.Error(got)
	}
	if got := answered(b.Do("total")); got == "ok" || strings.HasPrefix(got, "error") {
		t.Error(got)
	}
	// a journal of 60 lines is played again, one of 61 is not
	journal := strings.Join(lines[:60], "\n") + "\n"
	if b, number, e := bureau.Replay(s, journal); b == nil || number != -1 || e != api.OK {
		t.Error(number, e)
	}
	if b, number, e := bureau.Replay(s, journal+lines[60]+"\n"); b != nil || number != 60 || e != api.ErrState {
		t.Error(number, e)
	}
}

// bounds reports values of a point of the map of the day 0 that a Bureau takes, or does not, though it should, or should not.
func bounds(t *testing.T, s api.BureauSuite, lines []string, point int, p api.Span) {
	t.Helper()
	for _, x := range []struct {
		value int
		want  api.Errno
	}{{p.Low - 1, api.ErrRule}, {p.Low, api.OK}, {p.High, api.OK}, {p.High + 1, api.ErrRule}} {
		b := opened(t, s)
		doAll(t, b, lines...)
		if !in(x.value, 0, 99999) {
			x.want = api.ErrArg
		}
		if e := b.Ship(99, 0, point, span(x.value, x.value)); e != x.want {
			t.Error(lines, point, p, x.value, e)
		}
	}
}

// TestRead is for P10.2: the pressure at the sea is put on the map, between the bounds of layer 1, and up to the greatest one of a map.
func TestRead(t *testing.T) {
	bounds(t, suiteS(), []string{"read 0 0 480 1 76000 0 0 0 0 0 0"}, 0, span(75995, 76005))
	bounds(t, suiteS(), []string{"read 0 0 480 1 76000 0 0 0 0 0 0"}, 1, span(75895, 76105))
	bounds(t, suiteS(), []string{"read 0 0 480 1 76000 0 0 0 0 0 0"}, 3, span(75795, 76205))
	bounds(t, suiteS(), []string{"read 1 0 0 3 76000 0 0 0 0 0 0"}, 3, span(76000, 76000))
	bounds(t, suiteS(), []string{"read 1 0 1439 2 40000 0 0 0 0 0 0"}, 3, span(40000, 40000))
	// with a Height of 1000, 10000 for 79900 are added
	s := suiteS()
	s.Stations[0].Glass.Height, s.Stations[0].Glass.Read = span(1000, 1000), 0
	for _, x := range []struct {
		mercury, sea int
		want         string
	}{{88872, 99994, "ok"}, {88876, 99999, "ok"}, {88877, 100000, "error 7"}, {90000, 101264, "error 7"}} {
		b := opened(t, s)
		line := "read 0 0 480 1 " + text(x.mercury) + " 0 0 0 0 0 0"
		if got := answered(b.Do(line)); got != x.want {
			t.Error(line, got)
		}
		if x.want == "ok" {
			bounds(t, s, []string{line}, 0, span(x.sea, x.sea))
		}
	}
	// the greatest one is greater than a map's greatest one
	s.Stations[0].Glass.Read = 4
	bounds(t, s, []string{"read 0 0 480 1 88876 0 0 0 0 0 0"}, 0, span(99994, 99999))
	bounds(t, s, []string{"read 0 0 480 1 88880 0 0 0 0 0 0"}, 0, span(99999, 99999))
	if got := answered(opened(t, s).Do("read 0 0 480 1 88881 0 0 0 0 0 0")); got != "error 7" {
		t.Error(got)
	}
	// the index is that of the reading's day
	s = suiteS()
	s.Stations[1].Glass.Drift = 3
	b := opened(t, s)
	doAll(t, b, "read 1 1 480 1 76000 0 0 0 0 0 0")
	for value, want := range map[int]string{75996: "error 7", 76004: "error 7", 75997: "ok"} {
		if got := answered(b.Do("ship " + text(value%100, 1, 3, value, value))); got != want {
			t.Error(value, got)
		}
	}
}

// TestReadTwice is for P10.2: two readings of a day can contradict each other; the second one is refused then, and what was put on the map stays.
func TestReadTwice(t *testing.T) {
	b := done(t, "read 0 0 480 1 76000 0 0 0 0 0 0")
	refused(t, b, api.ErrRule, "read", func() api.Errno {
		r := readingS()
		r.Mercury = 76011
		return b.Read(0, r)
	})
	doAll(t, b, "read 0 0 480 1 76010 0 0 0 0 0 0", "read 0 1 480 1 76011 0 0 0 0 0 0")
	if got := answered(b.Do("draw 0")); got != "76005 76005 76005 76005" {
		t.Error(got)
	}
	if got := answered(b.Do("draw 1")); got != "76011 76011 76011 76011" {
		t.Error(got)
	}
}

// TestWire is for P10.2 and P0.2: the first readings of all messages that the copies can be are put on the map, from the least one to the greatest one.
func TestWire(t *testing.T) {
	for _, x := range []struct {
		copies string
		want   api.Span
	}{
		{"75810.27030.92840", span(75810, 75810)},
		{"75310.27030.92840", span(75310, 75810)},
		{"75310.27030.92840 75810.27030.92840", span(75810, 75810)},
		{"75310.27030.92340", span(75310, 75310)},
		{"75?10.27030.92840", span(75310, 75810)},
		// the figure that cannot be read is told by the check group, and by the second reading
		{"7?810.27030.92840", span(75810, 75810)},
		{"?5810.27030.?2840", span(75810, 75810)},
	} {
		bounds(t, suiteS(), []string{"wire 1 0 " + x.copies}, 3, x.want)
		bounds(t, suiteS(), []string{"wire 0 0 " + x.copies}, 0, x.want)
		bounds(t, suiteS(), []string{"wire 1 0 " + x.copies}, 0, span(x.want.Low-200, x.want.High+200))
	}
	// between the least reading and the greatest one, all are on the map, though no message has them
	bounds(t, suiteS(), []string{"wire 0 0 75310.27030.92840", "ship 1 0 0 75500 75600"}, 0, span(75500, 75600))
	b := opened(t, suiteS())
	refused(t, b, api.ErrRule, "wire", func() api.Errno {
		return b.Wire(0, 0, [][]string{clean(), {"75810", "27031", "92840"}})
	})
	refused(t, b, api.ErrRule, "wire", func() api.Errno { return b.Wire(0, 0, [][]string{{"65810", "27030", "82840"}}) })
	if e := b.Wire(0, 0, [][]string{garbled(), clean(), garbled()}); e != api.OK {
		t.Error(e)
	}
	// a telegram on another day does not matter
	if e := b.Wire(0, 1, [][]string{{"75310", "27030", "92340"}}); e != api.OK {
		t.Error(e)
	}
}

// TestCost is for P10.6: telegrams cost what layer 2 says, for as many words as a copy has groups, and as many copies.
func TestCost(t *testing.T) {
	b := opened(t, suiteS())
	cost := 0
	for _, x := range []struct {
		copies [][]string
		want   int
	}{{[][]string{clean()}, 131}, {[][]string{clean(), clean()}, 197}, {[][]string{clean(), garbled(), clean()}, 263}, {[][]string{{"75310", "27030", "92340"}}, 0}, {[][]string{{"7531", "27030", "92340"}}, 0}} {
		b.Wire(0, 0, x.copies)
		cost += x.want
		if got, e := b.Cost(); got != cost || e != api.OK {
			t.Error(x, got, e)
		}
	}
	s := largest()
	s.Stations, s.Tariff.Free = s.Stations[:1], 0
	b = opened(t, s)
	for day := range 4 {
		for range 12 {
			if e := b.Wire(0, day, slices.Repeat([][]string{{"00000", "00000", "00000", "00000"}}, 3)); e != api.OK {
				t.Fatal(e)
			}
		}
	}
	if got, e := b.Cost(); got != 48*100000 || e != api.OK {
		t.Error(got, e)
	}
}

// TestShips is for P10.2 and P10.6: each ship's log is once on the map of a day; the numbers of ships are in increasing order, those of refused logs are not there.
func TestShips(t *testing.T) {
	b := opened(t, suiteS())
	for _, number := range []int{99, 0, 17, 5} {
		if e := b.Ship(number, 0, number%4, span(75900, 76000)); e != api.OK {
			t.Error(number, e)
		}
	}
	refused(t, b, api.ErrRule, "the same", func() api.Errno { return b.Ship(5, 0, 1, span(75900, 76000)) })
	refused(t, b, api.ErrRule, "another point", func() api.Errno { return b.Ship(5, 0, 2, span(75900, 76000)) })
	refused(t, b, api.ErrRule, "impossible", func() api.Errno { return b.Ship(6, 0, 2, span(0, 75000)) })
	// a log that was refused can come again
	doAll(t, b, "ship 6 0 2 0 75900", "ship 5 1 1 0 99999", "ship 3 1 1 99999 99999")
	for day, want := range [][]int{{0, 5, 6, 17, 99}, {3, 5}} {
		if got, e := b.Ships(day); !slices.Equal(got, want) || e != api.OK {
			t.Error(day, got, e)
		}
	}
	bounds(t, suiteS(), []string{"ship 0 0 0 0 99999"}, 0, span(0, 99999))
	bounds(t, suiteS(), []string{"ship 0 0 0 0 0"}, 3, span(0, 200))
	bounds(t, suiteS(), []string{"ship 0 0 0 99999 99999"}, 3, span(99799, 99999))
}

// TestImpossible is for P10.2: what would make the map of a day impossible is refused, by any station that is on it.
func TestImpossible(t *testing.T) {
	lines := []string{"ship 1 0 0 76000 76010", "ship 2 0 3 75850 75900"}
	// neither of both alone, and both
	bounds(t, suiteS(), lines[:1], 1, span(75900, 76110))
	bounds(t, suiteS(), lines[1:], 1, span(75750, 76000))
	bounds(t, suiteS(), lines, 1, span(75900, 76000))
	b := done(t, lines...)
	refused(t, b, api.ErrRule, "too low", func() api.Errno { return b.Ship(3, 0, 1, span(75800, 75899)) })
	refused(t, b, api.ErrRule, "too high", func() api.Errno { return b.Ship(3, 0, 1, span(76001, 76100)) })
	doAll(t, b, "ship 3 1 1 75800 75899", "ship 3 0 1 75800 75900", "ship 4 0 1 75900 75990")
	refused(t, b, api.ErrRule, "too high", func() api.Errno { return b.Ship(5, 0, 1, span(75901, 75999)) })
}
