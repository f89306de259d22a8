package series_test

import (
	"math"
	"slices"
	"testing"

	"isobar/api"
	"isobar/series"
)

// TestJump is for P8.2: the chapter's examples, and the edges.
func TestJump(t *testing.T) {
	clash := with(suiteJ(), check(0, 1, 0, 3))
	for i, x := range []struct {
		s    api.SeriesSuite
		want int
		e    api.Errno
	}{
		{suiteS(), 0, api.ErrNone},
		{suiteJ(), 4, api.OK},
		{clash, 0, api.ErrRule},
		{with(suiteS(), check(1, 0, 4, 3+4), check(0, 1, -3, 9)), 0, api.ErrRule},
		{suiteOf(1, 0, unread(0)), 0, api.ErrNone},
		{suiteOf(4, 0, slices.Repeat([]api.SeriesYear{unread(2)}, 10)...), 0, api.ErrNone},
		// by 10 in a year, over years that are not read
		{suiteOf(1, 10, read(0, -5, 0), unread(0), unread(0), read(0, 30, 40)), 0, api.ErrNone},
		{suiteOf(1, 10, read(0, -5, 0), unread(0), unread(0), read(0, 31, 40)), 3, api.OK},
		{suiteOf(1, 10, read(0, 0, 5), unread(0), unread(0), read(0, -40, -30)), 0, api.ErrNone},
		{suiteOf(1, 10, read(0, 0, 5), unread(0), unread(0), read(0, -40, -31)), 3, api.OK},
		{suiteOf(1, 0, read(0, 1, 1), read(0, 1, 1), read(0, 2, 2), read(0, 1, 1)), 2, api.OK},
		// what is before the jump does not return, and only the first one counts
		{suiteOf(1, 10, read(0, 0, 0), read(0, 11, 11), read(0, 0, 0), read(0, 50, 50)), 1, api.OK},
		// the correction of a shelter that is used again is the same
		{suiteOf(2, 10, read(0, 0, 0), read(1, 0, 0), read(0, 20, 20), read(1, 30, 30)), 3, api.OK},
		{suiteOf(2, 10, read(0, 0, 0), read(1, 0, 0), read(0, 20, 20), read(1, 20, 30)), 0, api.ErrNone},
		// a reading alone can be too great, or too small, for a correction
		{with(suiteOf(2, 500, read(0, 1000, 1000)), check(0, 1, 1, 5)), 0, api.OK},
		{with(suiteOf(2, 500, read(0, 1000, 1000)), check(0, 1, 0, 5)), 0, api.ErrNone},
		{with(suiteOf(2, 500, unread(0), read(0, -1000, -1000)), check(0, 1, -5, -1)), 1, api.OK},
		{with(suiteOf(2, 500, unread(0), read(0, -1000, -1000)), check(1, 0, 0, 400)), 0, api.ErrNone},
		{suiteOf(2, 0, read(0, 0, 0), read(1, 200, 200)), 0, api.ErrNone},
		{suiteOf(2, 0, read(0, 0, 0), read(1, 201, 201)), 1, api.OK},
		{suiteOf(3, 0, read(0, 0, 0), read(1, 400, 400)), 0, api.ErrNone},
		{suiteOf(3, 0, read(0, 0, 0), read(1, 401, 401)), 1, api.OK},
		{suiteOf(3, 0, read(0, 0, 0), read(1, 400, 400), read(2, 200, 200)), 0, api.ErrNone},
		{suiteOf(3, 0, read(0, 0, 0), read(1, 400, 400), read(2, 201, 201)), 2, api.OK},
		// comparisons are there from the first year on
		{with(suiteOf(3, 0, read(0, 0, 0), read(1, 6, 7), read(2, 2, 3)), check(1, 0, -5, -4)), 1, api.OK},
		{with(suiteOf(3, 0, read(0, 0, 0), read(1, 5, 7), read(2, 2, 3)), check(1, 0, -5, -4), check(2, 0, -1, 9)), 2, api.OK},
	} {
		if n, e := series.Jump(x.s); n != x.want || e != x.e {
			t.Error(i, n, e)
		}
	}
}

// TestMoved is for P8.2: the chapter's example, and the edges.
func TestMoved(t *testing.T) {
	four := suiteOf(4, 5, read(0, 1, 2), read(3, 0, 0), read(2, 90, 90), read(0, 10, 10), read(3, 100, 100))
	for i, x := range []struct {
		s    api.SeriesSuite
		year int
		want api.Span
		e    api.Errno
	}{
		{suiteJ(), 4, span(-46, -15), api.OK},
		// in the year 3 there is no jump, nor anything in its shelter before; and a move there does not explain that of the year 4
		{suiteJ(), 3, span(0, 0), api.ErrNone},
		{suiteJ(), 1, span(0, 0), api.ErrNone},
		// it may be possible without a move
		{suiteS(), 4, span(-31, 1), api.OK},
		{suiteS(), 1, span(-6, 26), api.OK},
		{suiteS(), 3, span(-200, 200), api.OK},
		{suiteS(), 0, span(-196, 208), api.OK},
		{suiteOf(1, 0, read(0, 5, 5)), 0, span(-200, 200), api.OK},
		{suiteOf(2, 0, read(0, 5, 5)), 0, span(-400, 400), api.OK},
		// a correction is 200 at most; that of the last shelter is 0
		{suiteOf(1, 0, read(0, 0, 0), read(0, 200, 200)), 1, span(200, 200), api.OK},
		{suiteOf(1, 0, read(0, 0, 0), read(0, 201, 201)), 1, span(0, 0), api.ErrNone},
		{suiteOf(1, 0, read(0, 0, 0), read(0, -200, -200)), 1, span(-200, -200), api.OK},
		{suiteOf(1, 0, read(0, 0, 0), read(0, -201, -201)), 1, span(0, 0), api.ErrNone},
		{suiteOf(2, 0, read(0, 0, 0), read(0, 400, 400)), 1, span(400, 400), api.OK},
		{suiteOf(2, 0, read(0, 0, 0), read(0, 401, 401)), 1, span(0, 0), api.ErrNone},
		{suiteOf(1, 500, read(0, 1000, 1000), read(0, 900, 900)), 1, span(-200, 0), api.OK},
		{suiteOf(1, 500, read(0, -1000, -1000), read(0, -900, -900)), 1, span(0, 200), api.OK},
		// all readings before the year, and only those, are moved
		{suiteOf(1, 3, read(0, 0, 0), read(0, 2, 2), read(0, 10, 10), read(0, 12, 12)), 2, span(5, 11), api.OK},
		{suiteOf(1, 3, read(0, 0, 0), read(0, 2, 2), read(0, 10, 10), read(0, 12, 12)), 1, span(0, 0), api.ErrNone},
		{suiteOf(1, 3, read(0, 0, 0), read(0, 2, 2), read(0, 10, 10), read(0, 12, 12)), 3, span(0, 0), api.ErrNone},
		{suiteOf(1, 3, read(0, 0, 0), unread(0), read(0, 10, 10)), 2, span(4, 16), api.OK},
		// two jumps are one too many
		{suiteOf(1, 3, read(0, 0, 0), read(0, 9, 9), read(0, 0, 0)), 1, span(0, 0), api.ErrNone},
		{suiteOf(1, 3, read(0, 0, 0), read(0, 9, 9), read(0, 0, 0)), 2, span(0, 0), api.ErrNone},
		// in four shelters, a fifth one: the year 4 is 100, so that the year 3 is 95 to 105, and the year 0 is 8 or 9 less
		{four, 4, span(85, 102), api.OK},
		{four, 3, span(0, 0), api.ErrNone},
		{four, 1, span(0, 0), api.ErrNone},
		// other comparisons are not those of the other shelter
		{with(suiteOf(2, 0, read(0, 0, 0), read(0, 9, 9), read(1, 11, 11)), check(0, 1, -3, 3)), 1, span(9, 9), api.OK},
		{with(suiteOf(2, 0, read(0, 0, 0), read(0, 9, 9), read(1, 13, 13)), check(0, 1, -3, 3)), 1, span(0, 0), api.ErrNone},
		{with(suiteOf(2, 0, read(0, 0, 0), read(0, 9, 9), read(1, 11, 12)), check(1, 0, -3, 3), check(0, 1, 3, 8)), 1, span(9, 9), api.OK},
		// errors, and their order
		{with(suiteJ(), check(0, 1, 0, 3)), 4, span(0, 0), api.ErrRule},
		{with(suiteJ(), check(0, 1, 0, 3)), 3, span(0, 0), api.ErrRule},
		{with(suiteJ(), check(0, 1, 0, 3)), 2, span(0, 0), api.ErrArg},
		{with(suiteJ(), check(0, 1, 0, 3)), 5, span(0, 0), api.ErrArg},
		{suiteJ(), 2, span(0, 0), api.ErrArg},
		{suiteJ(), -1, span(0, 0), api.ErrArg},
		{suiteJ(), 5, span(0, 0), api.ErrArg},
		{suiteJ(), math.MinInt, span(0, 0), api.ErrArg},
		{suiteJ(), math.MaxInt, span(0, 0), api.ErrArg},
	} {
		if n, e := series.Moved(x.s, x.year); n != x.want || e != x.e {
			t.Error(i, n, e)
		}
	}
}

// TestJumpOfAll is for P8.2: jumps against another way of looking at them.
func TestJumpOfAll(t *testing.T) {
	d := dice(3)
	counts := map[int]int{}
	for range 8000 {
		s := d.suite(d.among(1, 10, 100))
		want := jumpOf(s)
		n, e := series.Jump(s)
		switch {
		case clashOf(s) >= 0:
			if n != 0 || e != api.ErrRule {
				t.Fatal(s, n, e)
			}
			want = -2
		case want < 0:
			if n != 0 || e != api.ErrNone {
				t.Fatal(s, n, e)
			}
		case n != want || e != api.OK:
			t.Fatal(s, want, n, e)
		}
		counts[want]++
	}
	for want := -2; want < 9; want++ {
		if counts[want] < 10 {
			t.Error("too few of a kind:", want, counts)
		}
	}
}

// TestJumpSplits is for P8.2: up to the year before the jump the series is possible, and with it no longer.
func TestJumpSplits(t *testing.T) {
	d := dice(4)
	jumps := 0
	for range 4000 {
		s := d.suite(10)
		n, e := series.Jump(s)
		if e != api.OK {
			if _, err := series.Join(s); (e == api.ErrNone) != (err == api.OK) {
				t.Fatal(s, e, err)
			}
			continue
		}
		jumps++
		before, e1 := series.Join(firstRead(s, n))
		_, e2 := series.Join(firstRead(s, n+1))
		_, e3 := series.Join(s)
		if e1 != api.OK || e2 != api.ErrRule || e3 != api.ErrRule || len(before) != len(s.Years) {
			t.Fatal(s, n, before, e1, e2, e3)
		}
	}
	if jumps < 500 {
		t.Error("too few jump:", jumps)
	}
}

// TestJumpOfTruths is for P8.2: no truth fits small suites with a jump.
func TestJumpOfTruths(t *testing.T) {
	d := dice(5)
	counts := map[api.Errno]int{}
	for range 1500 {
		s := d.small()
		n, e := series.Jump(s)
		counts[e]++
		if e == api.ErrRule {
			continue
		}
		for range truths(firstRead(s, len(s.Years))) {
			if e == api.OK {
				t.Fatal(s, n)
			}
			break
		}
		if e == api.OK {
			found := false
			for range truths(firstRead(s, n)) {
				found = true
				break
			}
			if !found {
				t.Fatal(s, n)
			}
		}
	}
	if counts[api.OK] < 50 || counts[api.ErrNone] < 500 {
		t.Error("too few of a kind:", counts)
	}
}

// apart returns a suite in which a move at a year is told as a further shelter, which comes before all others.
func apart(s api.SeriesSuite, year int) api.SeriesSuite {
	s = copied(s)
	moving := s.Years[year].Shelter
	s.Shelters++
	for i, y := range s.Years {
		s.Years[i].Shelter++
		if i < year && y.Shelter == moving {
			s.Years[i].Shelter = 0
		}
	}
	for i := range s.Checks {
		s.Checks[i].A++
		s.Checks[i].B++
	}
	return s
}

// TestMovedApart is for P8.2: a move is the same as a further shelter, of which both ends are reached and nothing is beyond.
func TestMovedApart(t *testing.T) {
	d := dice(6)
	counts := map[api.Errno]int{}
	for range 3000 {
		s, _ := d.planted(3, 10, 5, d.among(10, 50), d.among(1, 10))
		year := d.IntN(len(s.Years))
		if d.IntN(2) == 0 {
			for i := range year {
				if s.Years[i].Read && s.Years[i].Shelter == s.Years[year].Shelter {
					s.Years[i].Reading = pushed(s.Years[i].Reading, 60, 1000)
				}
			}
		}
		if i := d.IntN(len(s.Years)); s.Years[i].Read && d.IntN(3) == 0 {
			s.Years[i].Reading = pushed(s.Years[i].Reading, d.from(-60, 60), 1000)
		}
		if !s.Years[year].Read {
			continue
		}
		move, e := series.Moved(s, year)
		counts[e]++
		other := apart(s, year)
		shelter := s.Years[year].Shelter + 1
		if _, err := series.Shift(other); (e == api.OK) != (err == api.OK) {
			t.Fatal(s, year, move, e, err)
		}
		if e != api.OK {
			continue
		}
		for n, want := range map[int]api.Errno{move.Low: api.OK, move.High: api.OK, move.Low - 1: api.ErrRule, move.High + 1: api.ErrRule, move.Low + d.IntN(move.High-move.Low+1): api.OK} {
			if n < -400 || n > 400 {
				continue
			}
			// the comparison of both shelters pins the move
			if _, err := series.Shift(with(other, check(0, shelter, n, n))); err != want {
				t.Fatal(s, year, move, n, err)
			}
		}
	}
	if counts[api.OK] < 1000 || counts[api.ErrNone] < 100 {
		t.Error("too few of a kind:", counts)
	}
}

// TestMovedOfAll is for P8.2: moves in suites of all sizes, against another way of looking at them.
func TestMovedOfAll(t *testing.T) {
	d := dice(7)
	counts := map[api.Errno]int{}
	for range 1500 {
		s := d.suite(d.among(1, 10, 100))
		for year, y := range s.Years {
			if d.IntN(3) > 0 {
				continue
			}
			move, e := series.Moved(s, year)
			counts[e]++
			want, wantE := span(0, 0), api.OK
			w, other := movedWorldOf(s, year)
			switch {
			case !y.Read:
				wantE = api.ErrArg
			case clashOf(s) >= 0:
				wantE = api.ErrRule
			case !w.possible():
				wantE = api.ErrNone
			default:
				want = w.differ(other, y.Shelter)
			}
			if move != want || e != wantE {
				t.Fatal(s, year, move, e, want, wantE)
			}
		}
	}
	for _, e := range []api.Errno{api.OK, api.ErrArg, api.ErrRule, api.ErrNone} {
		if counts[e] < 30 {
			t.Error("too few of a kind:", counts)
		}
	}
}
