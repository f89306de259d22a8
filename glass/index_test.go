package glass_test

import (
	"slices"
	"testing"

	"isobar/api"
	"isobar/glass"
)

// walked returns the bounds of the index of all days, and whether there is an index: it walks from day to day, once from the first one and once from the last one.
func walked(s api.GlassStation) ([401]api.Span, bool) {
	var days [401]api.Span
	for day := range days {
		days[day] = span(-2000, 2000)
		for _, c := range s.Checks {
			if c.Day == day {
				days[day] = span(max(days[day].Low, c.Index.Low), min(days[day].High, c.Index.High))
			}
		}
	}
	there, back := days, days
	for day := 1; day <= 400; day++ {
		there[day] = span(max(there[day].Low, there[day-1].Low-s.Drift), min(there[day].High, there[day-1].High+s.Drift))
	}
	for day := 399; day >= 0; day-- {
		back[day] = span(max(back[day].Low, back[day+1].Low-s.Drift), min(back[day].High, back[day+1].High+s.Drift))
	}
	for day := range days {
		days[day] = span(max(there[day].Low, back[day].Low), min(there[day].High, back[day].High))
		if there[day].Low > there[day].High || back[day].Low > back[day].High || days[day].Low > days[day].High {
			return days, false
		}
	}
	return days, true
}

// isIndex reports whether one end of all bounds is an index.
func isIndex(s api.GlassStation, index func(day int) int) bool {
	for day := range 401 {
		n := index(day)
		if n < -2000 || n > 2000 || day > 0 && max(n-index(day-1), index(day-1)-n) > s.Drift {
			return false
		}
		for _, c := range s.Checks {
			if c.Day == day && (n < c.Index.Low || n > c.Index.High) {
				return false
			}
		}
	}
	return true
}

// TestCheck is for P1.1.
func TestCheck(t *testing.T) {
	widest := api.GlassStation{Height: span(0, 3000), Gravity: span(-3000, 3000), Drift: 100, Read: 200, East: 720, Slip: 60}
	widest.Checks = slices.Repeat([]api.GlassCheck{check(0, -2000, 2000), check(400, 2000, 2000)}, 6)
	west := station()
	west.East = -720
	for i, s := range []api.GlassStation{{}, station(), torn(), widest, west} {
		if e := glass.Check(s); e != api.OK {
			t.Error(i, e)
		}
	}
	for i, s := range wrongStations() {
		if e := glass.Check(s); e != api.ErrArg {
			t.Error(i, e)
		}
	}
}

// TestIndexExamples is for P1.1.
func TestIndexExamples(t *testing.T) {
	clipped := api.GlassStation{Drift: 100, Checks: []api.GlassCheck{check(0, 1990, 1995)}}
	still := api.GlassStation{Checks: []api.GlassCheck{check(200, -5, 7), check(3, -1, 9)}}
	for i, x := range []struct {
		s    api.GlassStation
		day  int
		want api.Span
		e    api.Errno
	}{
		{station(), 10, span(20, 30), api.OK},
		{station(), 20, span(15, 40), api.OK},
		{station(), 30, span(25, 50), api.OK},
		{station(), 0, span(10, 40), api.OK},
		{station(), 33, span(22, 53), api.OK},
		{station(), 100, span(-45, 120), api.OK},
		{station(), 400, span(-345, 420), api.OK},
		{station(check(20, 40, 41)), 20, span(40, 40), api.OK},
		{api.GlassStation{}, 0, span(-2000, 2000), api.OK},
		{clipped, 1, span(1890, 2000), api.OK},
		{clipped, 400, span(-2000, 2000), api.OK},
		{still, 0, span(-1, 7), api.OK},
		{still, 400, span(-1, 7), api.OK},
		{station(), -1, api.Span{}, api.ErrArg},
		{station(), 401, api.Span{}, api.ErrArg},
		{torn(), 20, api.Span{}, api.ErrRule},
		{torn(), 401, api.Span{}, api.ErrArg},
	} {
		if b, e := glass.Index(x.s, x.day); b != x.want || e != x.e {
			t.Error(i, b, e)
		}
	}
	for i, s := range wrongStations() {
		if b, e := glass.Index(s, 20); e != api.ErrArg || b != (api.Span{}) {
			t.Error(i, b, e)
		}
	}
}

// TestIndexWalked is for P1.1, and for what P1.2 says of comparisons that agree.
func TestIndexWalked(t *testing.T) {
	d := dice(11)
	agreed := 0
	for i := range 1500 {
		s := anyStation(d, 12, 60)
		if i%3 == 0 {
			spoil(d, &s)
		}
		want, agree := walked(s)
		one, other, clash := glass.Clash(s)
		if agree != (clash == api.ErrNone) {
			t.Fatal(s, one, other, clash, agree)
		}
		var got [401]api.Span
		for day := range got {
			b, e := glass.Index(s, day)
			if agree && (e != api.OK || b != want[day]) || !agree && (e != api.ErrRule || b != (api.Span{})) {
				t.Fatal(s, day, b, e, want[day], agree)
			}
			got[day] = b
		}
		if !agree {
			continue
		}
		agreed++
		if !isIndex(s, func(day int) int { return got[day].Low }) || !isIndex(s, func(day int) int { return got[day].High }) {
			t.Fatal(s, "an end is no index")
		}
	}
	if agreed < 500 || agreed > 1450 {
		t.Error("the stations are not mixed enough:", agreed)
	}
}

// TestClashExamples is for P1.2.
func TestClashExamples(t *testing.T) {
	for i, x := range []struct {
		s          api.GlassStation
		one, other int
		e          api.Errno
	}{
		{station(), 0, 0, api.ErrNone},
		{api.GlassStation{}, 0, 0, api.ErrNone},
		{torn(), 0, 2, api.OK},
		// the example of the chapter: another Index on the day 30
		{api.GlassStation{Drift: 1, Checks: []api.GlassCheck{check(10, 20, 30), check(30, 51, 60)}}, 0, 1, api.OK},
		// 20 days and a gap of 20
		{api.GlassStation{Drift: 1, Checks: []api.GlassCheck{check(10, 20, 30), check(30, 50, 60)}}, 0, 0, api.ErrNone},
		{api.GlassStation{Drift: 1, Checks: []api.GlassCheck{check(30, 51, 60), check(10, 20, 30)}}, 0, 1, api.OK},
		// on one day
		{api.GlassStation{Drift: 100, Checks: []api.GlassCheck{check(7, 1, 2), check(7, 2, 3), check(7, 3, 3)}}, 0, 2, api.OK},
		// the first two contradict neither each other nor the last one, but the third one
		{station(check(50, 4, 4), check(50, 5, 5)), 1, 2, api.OK},
		// 1 and 2 contradict each other, as 0 and 3 do: the least lesser number is first
		{api.GlassStation{Checks: []api.GlassCheck{check(0, 0, 9), check(1, 2, 3), check(2, 4, 5), check(3, 10, 11)}}, 0, 3, api.OK},
		// 0 contradicts 2 and 3: the least greater one
		{api.GlassStation{Checks: []api.GlassCheck{check(9, 0, 5), check(9, 5, 9), check(1, 6, 6), check(2, 7, 7)}}, 0, 2, api.OK},
		{station(check(0, 1, 0)), 0, 0, api.ErrArg},
	} {
		if one, other, e := glass.Clash(x.s); one != x.one || other != x.other || e != x.e {
			t.Error(i, one, other, e)
		}
	}
	for i, s := range wrongStations() {
		if one, other, e := glass.Clash(s); e != api.ErrArg || one != 0 || other != 0 {
			t.Error(i, one, other, e)
		}
	}
}

// firstTorn returns the first pair of comparisons with which alone a station has no index.
func firstTorn(s api.GlassStation) (int, int, api.Errno) {
	for one := range s.Checks {
		for other := one + 1; other < len(s.Checks); other++ {
			pair := s
			pair.Checks = []api.GlassCheck{s.Checks[one], s.Checks[other]}
			if _, agree := walked(pair); !agree {
				return one, other, api.OK
			}
		}
	}
	return 0, 0, api.ErrNone
}

// TestClashPairs is for P1.2.
func TestClashPairs(t *testing.T) {
	d := dice(12)
	for i := range 1500 {
		s := anyStation(d, 6, 40)
		for range i % 3 {
			spoil(d, &s)
		}
		wantOne, wantOther, want := firstTorn(s)
		if one, other, e := glass.Clash(s); one != wantOne || other != wantOther || e != want {
			t.Fatal(s, one, other, e, wantOne, wantOther, want)
		}
	}
}

// TestDueExamples is for P1.3.
func TestDueExamples(t *testing.T) {
	fixed := api.GlassStation{Drift: 1, Checks: []api.GlassCheck{check(400, 7, 9)}}
	for i, x := range []struct {
		s           api.GlassStation
		from, width int
		want        int
		e           api.Errno
	}{
		{station(), 0, 30, 33, api.OK},
		{station(), 10, 24, 18, api.OK},
		{station(), 0, 29, 0, api.OK},
		{station(), 33, 31, 34, api.OK},
		{station(), 0, 4000, 0, api.ErrNone},
		{station(), 400, 0, 400, api.OK},
		{station(), 0, 0, 0, api.OK},
		// on the day 400 the index is -345 to 420
		{station(), 0, 764, 400, api.OK},
		{station(), 0, 765, 0, api.ErrNone},
		{api.GlassStation{}, 5, 3999, 5, api.OK},
		{api.GlassStation{}, 5, 4000, 0, api.ErrNone},
		{fixed, 400, 1, 400, api.OK},
		{fixed, 400, 2, 0, api.ErrNone},
		{fixed, 399, 2, 399, api.OK},
		{station(), -1, 5, 0, api.ErrArg},
		{station(), 401, 5, 0, api.ErrArg},
		{station(), 0, -1, 0, api.ErrArg},
		{station(), 0, 4001, 0, api.ErrArg},
		{torn(), 0, 5, 0, api.ErrRule},
		{torn(), 0, 4001, 0, api.ErrArg},
	} {
		if day, e := glass.Due(x.s, x.from, x.width); day != x.want || e != x.e {
			t.Error(i, day, e)
		}
	}
	for i, s := range wrongStations() {
		if day, e := glass.Due(s, 0, 30); e != api.ErrArg || day != 0 {
			t.Error(i, day, e)
		}
	}
}

// TestDueWalked is for P1.3.
func TestDueWalked(t *testing.T) {
	d := dice(13)
	for range 1500 {
		s := anyStation(d, 12, 60)
		days, agree := walked(s)
		if !agree {
			t.Fatal(s)
		}
		begin, width := from(d, 0, 400), from(d, 0, 300)
		wantDay, want := 0, api.ErrNone
		for day := 400; day >= begin; day-- {
			if days[day].High-days[day].Low > width {
				wantDay, want = day, api.OK
			}
		}
		if day, e := glass.Due(s, begin, width); day != wantDay || e != want {
			t.Fatal(s, begin, width, day, e, wantDay, want)
		}
	}
}

// TestRiseExamples is for P1.5.
func TestRiseExamples(t *testing.T) {
	near := firstReading()
	near.Day, near.Mercury = 10, 75000
	tight := station(check(20, 25, 26))
	far := firstReading()
	far.Day = 400
	for i, x := range []struct {
		s    api.GlassStation
		a, b api.GlassReading
		want api.Span
		e    api.Errno
	}{
		{station(), firstReading(), laterReading(), span(-115, -85), api.OK},
		{station(), laterReading(), firstReading(), span(85, 115), api.OK},
		{station(), firstReading(), firstReading(), span(-10, 10), api.OK},
		{station(), near, firstReading(), span(30, 70), api.OK},
		{tight, near, firstReading(), span(34, 65), api.OK},
		{tight, firstReading(), near, span(-65, -34), api.OK},
		// in 390 days the index can rise by 390, but fall by 375 only: from 30 to 25 on the day 30, and then to -345
		{station(), near, far, span(50-390-10, 50+375+10), api.OK},
		{torn(), firstReading(), laterReading(), api.Span{}, api.ErrRule},
	} {
		if rise, e := glass.Rise(x.s, x.a, x.b); rise != x.want || e != x.e {
			t.Error(i, rise, e)
		}
	}
	for i, s := range wrongStations() {
		if rise, e := glass.Rise(s, near, near); e != api.ErrArg || rise != (api.Span{}) {
			t.Error(i, rise, e)
		}
	}
	for i, r := range wrongReadings() {
		for _, s := range []api.GlassStation{station(), torn()} {
			if rise, e := glass.Rise(s, r, near); e != api.ErrArg || rise != (api.Span{}) {
				t.Error(i, rise, e)
			}
			if rise, e := glass.Rise(s, near, r); e != api.ErrArg || rise != (api.Span{}) {
				t.Error(i, rise, e)
			}
		}
	}
}

// TestRiseTried is for P1.5: it tries all indexes of both days that some index of the station has.
func TestRiseTried(t *testing.T) {
	d := dice(15)
	tried := 0
	for range 3000 {
		s := anyStation(d, 10, 6)
		s.Drift = min(s.Drift, 2)
		days, agree := walked(s)
		a, b := anyReading(d, 5), anyReading(d, 5)
		if d.IntN(2) == 0 {
			b.Day = min(400, a.Day+d.IntN(4))
		}
		if !agree || days[a.Day].High-days[a.Day].Low > 15 || days[b.Day].High-days[b.Day].Low > 15 {
			continue
		}
		tried++
		want, found := api.Span{}, false
		for one := days[a.Day].Low; one <= days[a.Day].High; one++ {
			for other := days[b.Day].Low; other <= days[b.Day].High; other++ {
				exact := copied(s)
				exact.Checks = append(exact.Checks, check(a.Day, one, one), check(b.Day, other, other))
				if _, possible := walked(exact); !possible {
					continue
				}
				rise := (b.Mercury - other) - (a.Mercury - one)
				if !found {
					want, found = span(rise, rise), true
				}
				want = span(min(want.Low, rise), max(want.High, rise))
			}
		}
		want = span(want.Low-2*s.Read, want.High+2*s.Read)
		rise, e := glass.Rise(s, a, b)
		if !found || e != api.OK || rise != want {
			t.Fatal(s, a.Day, b.Day, rise, e, want)
		}
		if back, e := glass.Rise(s, b, a); e != api.OK || back != span(-rise.High, -rise.Low) {
			t.Fatal(s, a.Day, b.Day, rise, back, e)
		}
	}
	if tried < 100 {
		t.Error("too few stations are known closely enough:", tried)
	}
}
