package series_test

import (
	"math"
	"testing"

	"isobar/api"
	"isobar/series"
)

// TestNormal is for P8.4: the chapter's example, and the edges.
func TestNormal(t *testing.T) {
	s := suiteS()
	below := suiteOf(1, 500, read(0, -3, 2), read(0, -2, 4), read(0, -1, 1))
	for i, x := range []struct {
		s        api.SeriesSuite
		from, to int
		want     api.Span
		e        api.Errno
	}{
		{s, 0, 4, span(95, 101), api.OK},
		{s, 0, 0, span(82, 88), api.OK},
		{s, 4, 4, span(96, 97), api.OK},
		// 174 and 186, by 2; 188 and 210; 318 and 334, by 3
		{s, 0, 1, span(87, 93), api.OK},
		{s, 1, 2, span(94, 105), api.OK},
		{s, 1, 3, span(99, 107), api.OK},
		{s, 3, 4, span(103, 104), api.OK},
		// rounded down, also if it is less than 0: -5 and 6, by 2; -6 and 7, by 3; -3 and 5, by 2
		{below, 0, 1, span(-3, 3), api.OK},
		{below, 0, 2, span(-2, 2), api.OK},
		{below, 1, 2, span(-2, 2), api.OK},
		{below, 0, 0, span(-3, 2), api.OK},
		{below, 2, 2, span(-1, 1), api.OK},
		// -1 and 1, by 3; -2 and -1, by 3
		{suiteOf(1, 500, read(0, -1, 1), read(0, 0, 0), read(0, 0, 0)), 0, 2, span(-1, 0), api.OK},
		{suiteOf(1, 500, read(0, -1, -1), read(0, -1, 0), read(0, 0, 0)), 0, 2, span(-1, -1), api.OK},
		{suiteOf(1, 500, read(0, -1, -1), read(0, -1, -1), read(0, -2, -1)), 0, 2, span(-2, -1), api.OK},
		{suiteOf(1, 500, unread(0), unread(0), unread(0)), 0, 2, span(-1000, 1000), api.OK},
		{suiteOf(1, 500, unread(0)), 0, 0, span(-1000, 1000), api.OK},
		{s, 1, 0, span(0, 0), api.ErrArg},
		{s, 4, 3, span(0, 0), api.ErrArg},
		{s, -1, 0, span(0, 0), api.ErrArg},
		{s, -2, -1, span(0, 0), api.ErrArg},
		{s, 0, 5, span(0, 0), api.ErrArg},
		{s, 5, 5, span(0, 0), api.ErrArg},
		{s, math.MinInt, math.MaxInt, span(0, 0), api.ErrArg},
		{s, math.MaxInt, math.MinInt, span(0, 0), api.ErrArg},
		{suiteJ(), 0, 4, span(0, 0), api.ErrRule},
		{suiteJ(), 0, 5, span(0, 0), api.ErrArg},
	} {
		if n, e := series.Normal(x.s, x.from, x.to); n != x.want || e != x.e {
			t.Error(i, n, e)
		}
	}
}

// TestFrost is for P8.4: the chapter's example, and the edges.
func TestFrost(t *testing.T) {
	s := suiteS()
	for i, x := range []struct {
		s     api.SeriesSuite
		level int
		want  api.Span
		e     api.Errno
	}{
		{s, 95, span(1, 2), api.OK},
		{s, 81, span(0, 0), api.OK},
		{s, 82, span(0, 1), api.OK},
		{s, 87, span(0, 1), api.OK},
		{s, 88, span(1, 1), api.OK},
		{s, 91, span(1, 1), api.OK},
		{s, 92, span(1, 2), api.OK},
		{s, 96, span(1, 4), api.OK},
		{s, 97, span(2, 4), api.OK},
		{s, 98, span(3, 4), api.OK},
		{s, 110, span(3, 5), api.OK},
		{s, 111, span(4, 5), api.OK},
		{s, 112, span(5, 5), api.OK},
		{s, 1000, span(5, 5), api.OK},
		{s, -1000, span(0, 0), api.OK},
		{s, 1001, span(0, 0), api.ErrArg},
		{s, -1001, span(0, 0), api.ErrArg},
		{s, math.MinInt, span(0, 0), api.ErrArg},
		{s, math.MaxInt, span(0, 0), api.ErrArg},
		{suiteOf(1, 500, unread(0), unread(0), unread(0)), -1000, span(0, 3), api.OK},
		{suiteOf(1, 500, unread(0), unread(0), unread(0)), 999, span(0, 3), api.OK},
		{suiteOf(1, 500, unread(0), unread(0), unread(0)), 1000, span(3, 3), api.OK},
		{suiteOf(1, 500, read(0, -1000, -1000), unread(0)), -1000, span(1, 2), api.OK},
		{suiteJ(), 95, span(0, 0), api.ErrRule},
		{suiteJ(), 1001, span(0, 0), api.ErrArg},
	} {
		if n, e := series.Frost(x.s, x.level); n != x.want || e != x.e {
			t.Error(i, n, e)
		}
	}
}

// TestNormalOfTruths is for P8.4: normals and numbers of years against all truths of small suites.
func TestNormalOfTruths(t *testing.T) {
	d := dice(11)
	possible := 0
	for range 300 {
		s := d.small()
		var levels []int
		for range 10 {
			levels = append(levels, max(-1000, min(1000, s.Years[0].Reading.Low+d.from(-210, 210))))
		}
		if values, e := series.Join(s); e == api.OK {
			at := values[d.IntN(len(values))]
			levels = append(levels, at.Low, at.High, max(-1000, at.Low-1), max(-1000, at.High-1), d.from(at.Low, at.High))
		}
		seen := lookAt(s, levels...)
		if seen.truths == 0 {
			continue
		}
		possible++
		for years, want := range seen.normals {
			if n, e := series.Normal(s, years[0], years[1]); n != want || e != api.OK {
				t.Fatal(s, years, n, want, e)
			}
		}
		for level, want := range seen.frosts {
			if n, e := series.Frost(s, level); n != want || e != api.OK {
				t.Fatal(s, level, n, want, e)
			}
		}
	}
	if possible < 150 {
		t.Error("too few are possible:", possible)
	}
}

// normalOf returns the normal of some values.
func normalOf(values []int) int {
	sum := 0
	for _, n := range values {
		sum += n
	}
	return floor(sum, len(values))
}

// frostOf returns how many values are at most a level.
func frostOf(values []int, level int) int {
	cold := 0
	for _, n := range values {
		if n <= level {
			cold++
		}
	}
	return cold
}

// TestNormalEnds is for P8.4: in suites of all sizes, both ends are reached, and what is true lies within the bounds.
func TestNormalEnds(t *testing.T) {
	d := dice(12)
	for range 3000 {
		s, in := d.planted(4, 10, 6, d.among(500, 50, 10), d.among(1, 10, 100, 1000))
		bounds, _ := worldOf(s).shrink()
		values := bounds[s.Shelters:]
		for from := range s.Years {
			for to := from; to < len(s.Years); to++ {
				want := span(normalOf(lows(values[from:to+1])), normalOf(highs(values[from:to+1])))
				if n, e := series.Normal(s, from, to); n != want || e != api.OK || !has(n, normalOf(in.Values[from:to+1])) {
					t.Fatal(s, in, from, to, n, want, e)
				}
			}
		}
		for _, level := range []int{d.from(-1000, 1000), in.Values[0], values[0].Low, values[len(values)-1].High, max(-1000, values[0].Low-1), max(-1000, values[0].High-1)} {
			want := span(frostOf(highs(values), level), frostOf(lows(values), level))
			if n, e := series.Frost(s, level); n != want || e != api.OK || !has(n, frostOf(in.Values, level)) {
				t.Fatal(s, in, level, n, want, e)
			}
		}
	}
}
