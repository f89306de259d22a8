package bureau_test

import (
	"math"
	"slices"
	"strings"
	"testing"

	"isobar/api"
	"isobar/bureau"
)

// TestExample is for P10.1 to P10.8: the chapter's script returns what it says there.
func TestExample(t *testing.T) {
	rows := []struct{ line, want string }{
		{"read 0 0 480 1 76000 0 0 0 0 0 0", "ok"},
		{"draw 0", "76000 76000 76000 76000"},
		{"wire 1 0 75310.27030.92840", "ok"},
		{"draw 0", "76000 75902 75902 75802"},
		{"wire 1 0 75310.27030.92340", "error 7"},
		{"wire 1 0 75310.27030.92840 75810.27030.92840", "ok"},
		{"ship 17 0 1 75900 75905", "ok"},
		{"ship 17 0 2 75900 75905", "error 7"},
		{"ship 17 1 2 75900 75905", "ok"},
		{"draw 0", "76000 75902 75902 75810"},
		{"ships 0", "17"},
		{"cost", "328"},
		{"report 0 480 75500 20 60 10 5", "ok"},
		{"see", "error 5"},
		{"report 0 840 75150 10 50 10 4", "ok"},
		{"see", "850 890"},
		{"up 0 865", "2"},
		{"up 0 935", "3"},
		{"state 0 0 70 20 10", "ok"},
		{"state 0 0 100 0 0", "error 6"},
		{"came 0 1 3", "error 7"},
		{"state 0 1 50 50 0", "ok"},
		{"came 0 0 1", "ok"},
		{"came 0 1 3", "ok"},
		{"total", "18600 18600"},
		{"pay", "555 555"},
		{"low 0 3 75900", "1"},
	}
	b, script, want, journal := opened(t, suiteS()), "", "", ""
	for _, x := range rows {
		if got := answered(b.Do(x.line)); got != x.want {
			t.Error(x.line, got, x.want)
		}
		script, want = script+x.line+"\n", want+x.want+"\n"
		if x.want == "ok" {
			journal += x.line + "\n"
		}
	}
	if got := journalOf(t, b); got != journal {
		t.Error(got)
	}
	for _, script := range []string{script, strings.TrimSuffix(script, "\n"), "\n" + strings.ReplaceAll(script, "\n", "\n\n")} {
		if got, e := bureau.Console(suiteS(), script); got != want || e != api.OK {
			t.Error(got, e)
		}
	}
	again, number, e := bureau.Replay(suiteS(), journal)
	if number != -1 || e != api.OK || seen(t, suiteS(), again) != seen(t, suiteS(), b) {
		t.Error(number, e)
	}
}

// largest returns a suite that has as much of everything as it can have.
func largest() api.BureauSuite {
	check := api.GlassCheck{Day: 400, Index: span(-2000, 2000)}
	station := api.BureauStation{Point: 29, Glass: api.GlassStation{
		Height: span(0, 3000), Gravity: span(-3000, 3000), Drift: 100, Read: 200, East: 720, Slip: 60, Checks: slices.Repeat([]api.GlassCheck{check}, 12),
	}}
	report := api.ConeReport{Station: 5, Taken: 10080, Pressure: 99999, Delay: span(0, 2880), Urgent: 2880, Cost: 10000}
	return api.BureauSuite{
		Stations: slices.Repeat([]api.BureauStation{station}, 3),
		Code:     api.WireCode{Fields: slices.Repeat([]api.Span{span(0, 99999)}, 3), Turns: slices.Repeat([]int{1023}, 10), Most: 2},
		Tariff:   api.WireTariff{Open: 10000, Free: 100, More: 10000},
		Wide:     6, Rows: 5, Slope: 5000,
		Watch: api.ConeWatch{
			Stations: 6, Fall: 99999, Window: 2880, Hold: 2880, Dawn: 1440, Dusk: 1440,
			Reports: slices.Repeat([]api.ConeReport{report}, 9),
			Links:   slices.Repeat([]api.ConeLink{{A: 5, B: 4, Diff: 99999}}, 8),
			Ports:   slices.Repeat([]api.ConePort{{Order: span(2580, 2880), Day: 50000, Night: 50000}}, 4),
		},
		Classes: 3, Weights: []int{100, 100, 100}, Paper: api.ScorePaper{Base: 100000, Rate: 1000, Least: 100000}, Days: 4,
	}
}

// smallest returns a suite that has as little of everything as it can have.
func smallest() api.BureauSuite {
	return api.BureauSuite{
		Stations: make([]api.BureauStation, 1),
		Code:     api.WireCode{Fields: make([]api.Span, 1), Turns: make([]int, 10)},
		Wide:     1, Rows: 1, Watch: api.ConeWatch{Stations: 1, Fall: 1, Window: 1, Hold: 1},
		Classes: 2, Weights: []int{0}, Days: 1,
	}
}

// TestSound is for P10.1: suites as large and as small as they can be are opened, with nothing done.
func TestSound(t *testing.T) {
	d := dice(6)
	suites := []api.BureauSuite{suiteS(), largest(), smallest()}
	for range 300 {
		suites = append(suites, d.suite())
	}
	for _, s := range suites {
		if e := bureau.Check(s); e != api.OK {
			t.Error(s, e)
		}
		b := opened(t, s)
		if got := journalOf(t, b); got != "" {
			t.Error(s, got)
		}
		if ships, e := b.Ships(s.Days - 1); len(ships) != 0 || e != api.OK {
			t.Error(s, ships, e)
		}
		if cost, e := b.Cost(); cost != 0 || e != api.OK {
			t.Error(s, cost, e)
		}
		if total, e := b.Total(); total != span(0, 0) || e != api.OK {
			t.Error(s, total, e)
		}
		if pay, e := b.Pay(); pay != span(max(s.Paper.Base, s.Paper.Least), max(s.Paper.Base, s.Paper.Least)) || e != api.OK {
			t.Error(s, pay, e)
		}
		for day := range s.Days {
			f, e := b.Draw(day)
			if want := slices.Repeat([]int{49999}, s.Wide*s.Rows); f.Wide != s.Wide || !slices.Equal(f.Values, want) || e != api.OK {
				t.Error(s, f, e)
			}
		}
	}
}

// wrong returns how a suite can be made one that is not as defined.
func wrong() []func(*api.BureauSuite) {
	station := func(s *api.BureauSuite) *api.GlassStation { return &s.Stations[len(s.Stations)-1].Glass }
	return []func(*api.BureauSuite){
		func(s *api.BureauSuite) { s.Stations = nil },
		func(s *api.BureauSuite) { s.Stations = slices.Repeat(s.Stations[:1], 4) },
		func(s *api.BureauSuite) { s.Stations[0].Point = -1 },
		func(s *api.BureauSuite) { s.Stations[len(s.Stations)-1].Point = s.Wide * s.Rows },
		func(s *api.BureauSuite) { s.Stations[0].Point = math.MaxInt },
		func(s *api.BureauSuite) { station(s).Height = span(1, 0) },
		func(s *api.BureauSuite) { station(s).Height = span(0, 3001) },
		func(s *api.BureauSuite) { station(s).Gravity = span(-3001, 0) },
		func(s *api.BureauSuite) { station(s).Drift = 101 },
		func(s *api.BureauSuite) { station(s).Read = -1 },
		func(s *api.BureauSuite) { station(s).East = 721 },
		func(s *api.BureauSuite) { station(s).Slip = 61 },
		func(s *api.BureauSuite) { station(s).Checks = make([]api.GlassCheck, 13) },
		func(s *api.BureauSuite) { station(s).Checks = []api.GlassCheck{{Day: 401}} },
		// comparisons that contradict each other, on a day that is none of the Bureau's too
		func(s *api.BureauSuite) {
			station(s).Checks = []api.GlassCheck{{Index: span(0, 0)}, {Index: span(1, 1)}}
		},
		func(s *api.BureauSuite) {
			station(s).Drift, station(s).Checks = 1, []api.GlassCheck{{Day: 300, Index: span(0, 0)}, {Day: 400, Index: span(101, 200)}}
		},
		func(s *api.BureauSuite) { s.Code.Fields = nil },
		func(s *api.BureauSuite) { s.Code.Fields = make([]api.Span, 4) },
		func(s *api.BureauSuite) { s.Code.Fields[0] = span(1, 0) },
		func(s *api.BureauSuite) { s.Code.Fields[0].High = 100000 },
		func(s *api.BureauSuite) { s.Code.Turns = s.Code.Turns[1:] },
		func(s *api.BureauSuite) { s.Code.Turns[9] = 1024 },
		func(s *api.BureauSuite) { s.Code.Most = 3 },
		func(s *api.BureauSuite) { s.Tariff.Open = 10001 },
		func(s *api.BureauSuite) { s.Tariff.Free = 101 },
		func(s *api.BureauSuite) { s.Tariff.More = -1 },
		func(s *api.BureauSuite) { s.Wide = 0 },
		func(s *api.BureauSuite) { s.Wide = 7 },
		func(s *api.BureauSuite) { s.Rows = 0 },
		func(s *api.BureauSuite) { s.Rows = 6 },
		func(s *api.BureauSuite) { s.Wide, s.Rows = -1, -1 },
		func(s *api.BureauSuite) { s.Slope = -1 },
		func(s *api.BureauSuite) { s.Slope = 5001 },
		func(s *api.BureauSuite) { s.Watch.Stations = 0 },
		func(s *api.BureauSuite) { s.Watch.Stations = 7 },
		func(s *api.BureauSuite) { s.Watch.Fall = 0 },
		func(s *api.BureauSuite) { s.Watch.Window = 2881 },
		func(s *api.BureauSuite) { s.Watch.Hold = 0 },
		func(s *api.BureauSuite) { s.Watch.Dawn = s.Watch.Dusk + 1 },
		func(s *api.BureauSuite) { s.Watch.Dusk = 1441 },
		func(s *api.BureauSuite) { s.Watch.Reports = make([]api.ConeReport, 10) },
		func(s *api.BureauSuite) { s.Watch.Reports = []api.ConeReport{{Station: s.Watch.Stations}} },
		func(s *api.BureauSuite) { s.Watch.Links = []api.ConeLink{{Diff: 1}} },
		func(s *api.BureauSuite) { s.Watch.Ports = make([]api.ConePort, 5) },
		func(s *api.BureauSuite) { s.Watch.Ports = []api.ConePort{{Order: span(0, 301)}} },
		func(s *api.BureauSuite) { s.Classes = 1 },
		func(s *api.BureauSuite) { s.Classes = 4 },
		func(s *api.BureauSuite) { s.Weights = nil },
		func(s *api.BureauSuite) { s.Weights = make([]int, 4) },
		func(s *api.BureauSuite) { s.Weights[0] = -1 },
		func(s *api.BureauSuite) { s.Weights[len(s.Weights)-1] = 101 },
		func(s *api.BureauSuite) { s.Paper.Base = 100001 },
		func(s *api.BureauSuite) { s.Paper.Rate = 1001 },
		func(s *api.BureauSuite) { s.Paper.Least = -1 },
		func(s *api.BureauSuite) { s.Days = 0 },
		func(s *api.BureauSuite) { s.Days = 5 },
		func(s *api.BureauSuite) { s.Days = -1 },
	}
}

// TestWrongSuite is for P10.1 and P10.8: a suite that is not as defined is not opened, by any of the functions.
func TestWrongSuite(t *testing.T) {
	suites := []api.BureauSuite{{}}
	for _, change := range wrong() {
		for _, s := range []api.BureauSuite{suiteS(), largest(), smallest()} {
			change(&s)
			suites = append(suites, s)
		}
	}
	for i, s := range suites {
		if e := bureau.Check(s); e != api.ErrArg {
			t.Error(i, s, e)
		}
		if b, e := bureau.Open(s); b != nil || e != api.ErrArg {
			t.Error(i, s, b, e)
		}
		for _, journal := range []string{"", "x", "x\n", strings.Repeat("x", 12000)} {
			if b, number, e := bureau.Replay(s, journal); b != nil || number != -1 || e != api.ErrArg {
				t.Error(i, s, b, number, e)
			}
			if out, e := bureau.Console(s, journal); out != "" || e != api.ErrArg {
				t.Error(i, s, out, e)
			}
		}
		long := strings.Repeat("\n", 12001)
		if b, number, e := bureau.Replay(s, long); b != nil || number != -1 || e != api.ErrLong {
			t.Error(i, s, b, number, e)
		}
		if out, e := bureau.Console(s, long); out != "" || e != api.ErrLong {
			t.Error(i, s, out, e)
		}
	}
}

// TestEitherClash is for P10.1: comparisons of a station agree just as layer 1 says, whatever they are.
func TestEitherClash(t *testing.T) {
	d := dice(7)
	counts := map[api.Errno]int{}
	for range 1000 {
		s := suiteS()
		g := &s.Stations[1].Glass
		g.Drift, g.Checks = d.from(0, 3), nil
		for range d.from(1, 4) {
			g.Checks = append(g.Checks, api.GlassCheck{Day: d.from(0, 12), Index: d.around(d.from(-12, 12), 6, span(-2000, 2000))})
		}
		want := api.OK
		for _, a := range g.Checks {
			for _, b := range g.Checks {
				if a.Index.Low > b.Index.High+g.Drift*max(a.Day-b.Day, b.Day-a.Day) {
					want = api.ErrArg
				}
			}
		}
		if e := bureau.Check(s); e != want {
			t.Fatal(g, e)
		}
		counts[want]++
	}
	if counts[api.OK] < 200 || counts[api.ErrArg] < 200 {
		t.Error(counts)
	}
}
