package series_test

import (
	"math"
	"slices"
	"testing"

	"isobar/api"
	"isobar/series"
)

// wrong returns suites that are not as defined, each by one thing.
func wrong() []api.SeriesSuite {
	var out []api.SeriesSuite
	for _, change := range []func(*api.SeriesSuite){
		func(s *api.SeriesSuite) { s.First = -1 },
		func(s *api.SeriesSuite) { s.First = 10000 },
		func(s *api.SeriesSuite) { s.First = math.MinInt },
		func(s *api.SeriesSuite) { s.First = math.MaxInt },
		func(s *api.SeriesSuite) { s.Shelters = 0 },
		func(s *api.SeriesSuite) { s.Shelters = 1 },
		func(s *api.SeriesSuite) { s.Shelters = -2 },
		func(s *api.SeriesSuite) { s.Shelters = 5 },
		func(s *api.SeriesSuite) { s.Shelters = math.MinInt },
		func(s *api.SeriesSuite) { s.Shelters = math.MaxInt },
		func(s *api.SeriesSuite) { s.Change = -1 },
		func(s *api.SeriesSuite) { s.Change = 501 },
		func(s *api.SeriesSuite) { s.Change = math.MinInt },
		func(s *api.SeriesSuite) { s.Years = nil },
		func(s *api.SeriesSuite) { s.Years = []api.SeriesYear{} },
		func(s *api.SeriesSuite) { s.Years = slices.Repeat([]api.SeriesYear{unread(0)}, 11) },
		func(s *api.SeriesSuite) { s.Years[0].Shelter = -1 },
		func(s *api.SeriesSuite) { s.Years[4].Shelter = 2 },
		func(s *api.SeriesSuite) { s.Years[2].Shelter = 2 },
		func(s *api.SeriesSuite) { s.Years[2].Shelter = math.MinInt },
		func(s *api.SeriesSuite) { s.Years[1].Reading = span(102, 100) },
		func(s *api.SeriesSuite) { s.Years[1].Reading = span(-1001, 0) },
		func(s *api.SeriesSuite) { s.Years[1].Reading = span(0, 1001) },
		func(s *api.SeriesSuite) { s.Years[1].Reading = span(1001, 1001) },
		func(s *api.SeriesSuite) { s.Years[1].Reading = span(-1001, -1001) },
		func(s *api.SeriesSuite) { s.Years[1].Reading = span(math.MinInt, math.MaxInt) },
		func(s *api.SeriesSuite) { s.Years[4].Reading = span(1, -1) },
		func(s *api.SeriesSuite) { s.Years[1].Read = false },
		func(s *api.SeriesSuite) { s.Years[2].Reading = span(0, 1) },
		func(s *api.SeriesSuite) { s.Years[2].Reading = span(-1, 0) },
		func(s *api.SeriesSuite) { s.Years[2].Reading = span(1, 1) },
		func(s *api.SeriesSuite) { s.Checks[0].A = -1 },
		func(s *api.SeriesSuite) { s.Checks[0].A = 2 },
		func(s *api.SeriesSuite) { s.Checks[0].A = 1 },
		func(s *api.SeriesSuite) { s.Checks[0].B = -1 },
		func(s *api.SeriesSuite) { s.Checks[0].B = 2 },
		func(s *api.SeriesSuite) { s.Checks[0].B = 0 },
		func(s *api.SeriesSuite) { s.Checks[0].B = math.MaxInt },
		func(s *api.SeriesSuite) { s.Checks[0].Differ = span(-401, 0) },
		func(s *api.SeriesSuite) { s.Checks[0].Differ = span(0, 401) },
		func(s *api.SeriesSuite) { s.Checks[0].Differ = span(-4, -8) },
		func(s *api.SeriesSuite) { s.Checks[0].Differ = span(401, 401) },
		func(s *api.SeriesSuite) { s.Checks[0].Differ = span(-401, -401) },
		func(s *api.SeriesSuite) { s.Checks[0].Differ = span(math.MinInt, math.MaxInt) },
		func(s *api.SeriesSuite) { s.Checks = append(s.Checks, check(1, 1, 0, 0)) },
		func(s *api.SeriesSuite) { s.Checks = slices.Repeat(s.Checks, 7) },
		func(s *api.SeriesSuite) { *s = api.SeriesSuite{} },
		// one shelter alone, with which nothing can be compared
		func(s *api.SeriesSuite) { *s = with(suiteOf(1, 0, unread(0)), check(0, 0, 0, 0)) },
		func(s *api.SeriesSuite) { *s = with(suiteOf(1, 0, unread(0)), check(0, 1, 0, 0)) },
	} {
		s := suiteS()
		change(&s)
		out = append(out, s)
	}
	return out
}

// TestCheck is for P8.1: the edges, and suites that are not as defined.
func TestCheck(t *testing.T) {
	for i, s := range []api.SeriesSuite{
		suiteS(), suiteJ(), largest(),
		suiteOf(1, 0, unread(0)),
		suiteOf(1, 500, read(0, 0, 0)),
		suiteOf(4, 0, unread(0), unread(3)),
		suiteOf(4, 0, read(0, -1000, -1000), read(1, 1000, 1000), read(2, -1000, 1000)),
		with(suiteOf(2, 0, unread(1)), check(1, 0, -400, -400), check(0, 1, 400, 400), check(0, 1, 0, 0), check(0, 1, 0, 0), check(0, 1, 0, 0), check(0, 1, 0, 0)),
	} {
		if e := series.Check(s); e != api.OK {
			t.Error(i, e)
		}
	}
	for i, s := range wrong() {
		if e := series.Check(s); e != api.ErrArg {
			t.Error(i, s, e)
		}
	}
}

// TestWrong is for P8.1 to P8.6: no function takes a suite that is not as defined.
func TestWrong(t *testing.T) {
	for i, s := range wrong() {
		year := 0
		if is, e := series.Fits(s, api.SeriesTruth{Shifts: make([]int, max(0, min(s.Shelters, 9))), Values: make([]int, len(s.Years))}); is || e != api.ErrArg {
			t.Error(i, is, e)
		}
		if n, e := series.Clash(s); n != 0 || e != api.ErrArg {
			t.Error(i, n, e)
		}
		if n, e := series.Jump(s); n != 0 || e != api.ErrArg {
			t.Error(i, n, e)
		}
		if n, e := series.Moved(s, year); n != span(0, 0) || e != api.ErrArg {
			t.Error(i, n, e)
		}
		if l, e := series.Join(s); len(l) != 0 || e != api.ErrArg {
			t.Error(i, l, e)
		}
		if l, e := series.Shift(s); len(l) != 0 || e != api.ErrArg {
			t.Error(i, l, e)
		}
		if n, e := series.Normal(s, year, year); n != span(0, 0) || e != api.ErrArg {
			t.Error(i, n, e)
		}
		if n, e := series.Frost(s, 0); n != span(0, 0) || e != api.ErrArg {
			t.Error(i, n, e)
		}
		if w, e := series.Warmer(s, year, year); w != 0 || e != api.ErrArg {
			t.Error(i, w, e)
		}
		if l, e := series.Warmest(s); len(l) != 0 || e != api.ErrArg {
			t.Error(i, l, e)
		}
		if text, e := series.Print(s); text != "" || e != api.ErrArg {
			t.Error(i, text, e)
		}
	}
}

// TestFits is for P8.1: truths, and what is none by one number alone.
func TestFits(t *testing.T) {
	s := suiteS()
	free := suiteOf(3, 500, unread(0), unread(1), unread(2))
	for i, x := range []struct {
		s    api.SeriesSuite
		in   api.SeriesTruth
		want bool
	}{
		{s, truth(2, -8, 0, 82, 92, 96, 110, 96), true},
		{s, truth(2, -4, 0, 88, 98, 112, 111, 97), true},
		{s, truth(2, -6, 0, 85, 95, 100, 110, 96), true},
		// a correction too small, too great, and the last one
		{s, truth(2, -9, 0, 82, 92, 96, 110, 96), false},
		{s, truth(2, -3, 0, 88, 98, 112, 111, 97), false},
		{s, truth(2, -4, 1, 88, 98, 112, 111, 97), false},
		{s, truth(2, -5, -1, 85, 95, 100, 110, 96), false},
		// values that are not what was read
		{s, truth(2, -6, 0, 83, 95, 100, 110, 96), false},
		{s, truth(2, -6, 0, 87, 95, 100, 110, 96), false},
		{s, truth(2, -6, 0, 85, 93, 100, 110, 96), false},
		{s, truth(2, -6, 0, 85, 97, 100, 110, 96), false},
		{s, truth(2, -6, 0, 85, 95, 100, 109, 96), false},
		{s, truth(2, -6, 0, 85, 95, 101, 113, 100), false},
		{s, truth(2, -6, 0, 85, 95, 100, 110, 98), false},
		// values that change by more than 14
		{s, truth(2, -6, 0, 85, 95, 95, 110, 96), false},
		{s, truth(2, -6, 0, 85, 95, 110, 110, 96), false},
		{s, truth(2, -6, 0, 85, 95, 109, 110, 96), true},
		{s, truth(2, -6, 0, 85, 95, 100, 110, 95), false},
		{suiteJ(), truth(2, -6, 0, 85, 95, 100, 110, 96), false},
		// the edges of what there is
		{free, truth(3, -200, 200, 0, 1000, 500, 0), true},
		{free, truth(3, 200, -200, 0, -1000, -500, -1000), true},
		{free, truth(3, 201, -200, 0, -1000, -500, -1000), false},
		{free, truth(3, -201, -200, 0, -1000, -500, -1000), false},
		{free, truth(3, 200, 201, 0, -1000, -500, -1000), false},
		{free, truth(3, 200, -201, 0, -1000, -500, -1000), false},
		{free, truth(3, 200, -200, 1, -1000, -500, -1000), false},
		{free, truth(3, 200, -200, -1, -1000, -500, -1000), false},
		{free, truth(3, 200, -200, 0, -1001, -500, -1000), false},
		{free, truth(3, 200, -200, 0, -1000, -500, -1001), false},
		{free, truth(3, 200, -200, 0, 500, 1000, 1001), false},
		{free, truth(3, 200, -200, 0, 1001, 1000, 1000), false},
		{free, truth(3, 200, -200, 0, 1000, 499, 0), false},
		{free, truth(3, 200, -200, 0, 500, 1000, 499), false},
		{free, truth(3, math.MinInt, math.MaxInt, 0, 0, 0, 0), false},
		{free, truth(3, 0, 0, math.MinInt, 0, 0, 0), false},
		{free, truth(3, 0, 0, 0, math.MaxInt, math.MinInt, math.MaxInt), false},
		{free, truth(3, 0, 0, 0, math.MinInt, math.MinInt, math.MinInt), false},
		{suiteOf(1, 0, unread(0), unread(0)), truth(1, 0, 7, 7), true},
		{suiteOf(1, 0, unread(0), unread(0)), truth(1, 0, 7, 8), false},
		{suiteOf(1, 0, unread(0), unread(0)), truth(1, 0, 8, 7), false},
		// a reading with its correction is the value; the value less the correction is what was read
		{suiteOf(2, 500, read(0, 1000, 1000)), truth(2, -200, 0, 800), true},
		{suiteOf(2, 500, read(0, 1000, 1000)), truth(2, 1, 0, 1001), false},
		{suiteOf(2, 500, read(0, -1000, -1000)), truth(2, 200, 0, -800), true},
		{suiteOf(2, 500, read(0, -1000, -1000)), truth(2, -200, 0, -1200), false},
	} {
		if is, e := series.Fits(x.s, x.in); is != x.want || e != api.OK {
			t.Error(i, is, e)
		}
	}
	for i, in := range []api.SeriesTruth{
		{}, truth(2, -8, 0), truth(0, 82, 92, 96, 110, 96), truth(1, -8, 82, 92, 96, 110, 96), truth(3, -8, 0, 0, 82, 92, 96, 110, 96), truth(2, -8, 0, 82, 92, 96, 110), truth(2, -8, 0, 82, 92, 96, 110, 96, 96), truth(3, -8, 0, 82, 92, 96, 110, 96), truth(1, -8, 0, 82, 92, 96, 110, 96),
	} {
		if is, e := series.Fits(s, in); is || e != api.ErrArg {
			t.Error(i, is, e)
		}
	}
}

// TestFitsOfAll is for P8.1: what is near truths of suites of all sizes.
func TestFitsOfAll(t *testing.T) {
	d := dice(1)
	counts := map[bool]int{}
	for range 20000 {
		s, in := d.planted(4, 10, 6, 500, d.among(0, 2, 20))
		if is, e := series.Fits(s, in); !is || e != api.OK {
			t.Fatal(s, in, is, e)
		}
		for range d.from(1, 3) {
			if d.IntN(4) == 0 {
				in.Shifts[d.IntN(len(in.Shifts))] += d.among(-1, 1, d.from(-20, 20))
			} else {
				in.Values[d.IntN(len(in.Values))] += d.among(-1, 1, d.from(-20, 20))
			}
		}
		is, e := series.Fits(s, in)
		if is != fitsOf(s, in) || e != api.OK {
			t.Fatal(s, in, is, e)
		}
		counts[is]++
	}
	if counts[true] < 2000 || counts[false] < 2000 {
		t.Error("too few of a kind:", counts)
	}
}

// TestClash is for P8.1: the chapter's examples, and the edges.
func TestClash(t *testing.T) {
	four := suiteOf(4, 0, unread(0))
	for i, x := range []struct {
		s    api.SeriesSuite
		want int
		e    api.Errno
	}{
		{suiteS(), 0, api.ErrNone},
		{with(suiteS(), check(0, 1, 0, 3)), 1, api.OK},
		// readings do not matter
		{suiteJ(), 0, api.ErrNone},
		{with(suiteOf(2, 0, read(0, 0, 0), read(1, 5, 5)), check(0, 1, 0, 3)), 0, api.ErrNone},
		{suiteOf(1, 0, unread(0)), 0, api.ErrNone},
		{suiteOf(1, 0, read(0, 0, 0), read(0, 1, 1)), 0, api.ErrNone},
		// the last correction is 0, so that no other one differs from it by more than 200
		{with(four, check(0, 3, 201, 400)), 0, api.OK},
		{with(four, check(0, 3, 200, 400)), 0, api.ErrNone},
		{with(four, check(0, 3, -400, -201)), 0, api.OK},
		{with(four, check(3, 0, 201, 400)), 0, api.OK},
		{with(four, check(3, 0, -400, -200)), 0, api.ErrNone},
		{with(four, check(0, 1, 400, 400)), 0, api.ErrNone},
		{with(four, check(0, 1, 400, 400), check(1, 2, 0, 0)), 0, api.ErrNone},
		{with(four, check(0, 1, 400, 400), check(1, 2, -1, -1)), 0, api.ErrNone},
		{with(four, check(0, 1, 400, 400), check(1, 2, 1, 1)), 1, api.OK},
		{with(four, check(0, 1, 399, 399), check(1, 3, -198, 200)), 1, api.OK},
		{with(four, check(0, 1, 399, 399), check(1, 3, -199, 200)), 0, api.ErrNone},
		// the same shelters, in either order
		{with(four, check(0, 1, 3, 5), check(1, 0, -4, 0)), 0, api.ErrNone},
		{with(four, check(0, 1, 3, 5), check(1, 0, -3, 0)), 0, api.ErrNone},
		{with(four, check(0, 1, 3, 5), check(1, 0, -2, 0)), 1, api.OK},
		{with(four, check(0, 1, 3, 5), check(1, 0, -9, -6)), 1, api.OK},
		{with(four, check(0, 1, 3, 5), check(0, 1, 6, 7), check(0, 1, 0, 2)), 1, api.OK},
		{with(four, check(0, 1, 3, 5), check(0, 1, 5, 7), check(0, 1, 0, 4)), 2, api.OK},
		// around three and four shelters
		{with(four, check(0, 1, 1, 2), check(1, 2, 1, 2), check(2, 0, -4, -2)), 0, api.ErrNone},
		{with(four, check(0, 1, 1, 2), check(1, 2, 1, 2), check(2, 0, -1, 9)), 2, api.OK},
		{with(four, check(0, 1, 1, 2), check(2, 0, -9, -5), check(3, 2, 0, 0), check(1, 2, 1, 2)), 3, api.OK},
		{with(four, check(0, 1, 1, 2), check(1, 2, 1, 2), check(2, 3, 1, 2), check(0, 3, 3, 6), check(0, 3, 6, 7), check(3, 0, -5, -5)), 5, api.OK},
	} {
		if n, e := series.Clash(x.s); n != x.want || e != x.e {
			t.Error(i, n, e)
		}
	}
}

// TestClashOfAll is for P8.1: comparisons against another way of looking at them, which are not those of the readings.
func TestClashOfAll(t *testing.T) {
	d := dice(2)
	counts := map[int]int{}
	for range 4000 {
		s := d.suite(d.among(1, 10, 100))
		for i, c := range s.Checks {
			if d.IntN(4) == 0 {
				s.Checks[i].Differ = pushed(c.Differ, d.from(-400, 400), 400)
			}
		}
		want := clashOf(s)
		n, e := series.Clash(s)
		if want < 0 && (n != 0 || e != api.ErrNone) || want >= 0 && (n != want || e != api.OK) {
			t.Fatal(s, want, n, e)
		}
		counts[want]++
	}
	for want := -1; want < 5; want++ {
		if counts[want] < 10 {
			t.Error("too few of a kind:", want, counts)
		}
	}
}
