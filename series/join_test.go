package series_test

import (
	"slices"
	"testing"

	"isobar/api"
	"isobar/series"
)

// TestJoin is for P8.3: the chapter's examples, and the edges.
func TestJoin(t *testing.T) {
	four := with(suiteOf(4, 500, unread(0)), check(0, 1, 10, 20), check(1, 2, 30, 50), check(3, 2, -5, 5))
	for i, x := range []struct {
		s      api.SeriesSuite
		shifts []api.Span
		values []api.Span
	}{
		{suiteS(), []api.Span{span(-8, -4), span(0, 0)}, []api.Span{span(82, 88), span(92, 98), span(96, 112), span(110, 111), span(96, 97)}},
		// nothing is known
		{suiteOf(1, 0, unread(0)), []api.Span{span(0, 0)}, []api.Span{span(-1000, 1000)}},
		{suiteOf(3, 500, unread(0), unread(2)), []api.Span{span(-200, 200), span(-200, 200), span(0, 0)}, []api.Span{span(-1000, 1000), span(-1000, 1000)}},
		// the last shelter alone is read
		{suiteOf(1, 7, read(0, 3, 5)), []api.Span{span(0, 0)}, []api.Span{span(3, 5)}},
		{suiteOf(1, 7, unread(0), read(0, 3, 5), unread(0), unread(0)), []api.Span{span(0, 0)}, []api.Span{span(-4, 12), span(3, 5), span(-4, 12), span(-11, 19)}},
		{suiteOf(1, 500, unread(0), unread(0), read(0, 300, 700), unread(0), unread(0)), []api.Span{span(0, 0)}, []api.Span{span(-700, 1000), span(-200, 1000), span(300, 700), span(-200, 1000), span(-700, 1000)}},
		// years on both sides
		{suiteOf(1, 10, read(0, 0, 9), unread(0), unread(0), read(0, 25, 40)), []api.Span{span(0, 0)}, []api.Span{span(0, 9), span(5, 19), span(15, 29), span(25, 39)}},
		{suiteOf(1, 10, read(0, 0, 9), unread(0), unread(0), read(0, -25, -20)), []api.Span{span(0, 0)}, []api.Span{span(0, 9), span(-10, 0), span(-20, -10), span(-25, -20)}},
		{suiteOf(1, 0, read(0, 0, 9), unread(0), read(0, 5, 20), read(0, -7, 7)), []api.Span{span(0, 0)}, []api.Span{span(5, 7), span(5, 7), span(5, 7), span(5, 7)}},
		// nobody knows the correction of the first shelter, nor of one that is not used
		{suiteOf(2, 5, read(0, 10, 20)), []api.Span{span(-200, 200), span(0, 0)}, []api.Span{span(-190, 220)}},
		{suiteOf(3, 5, read(0, 10, 20), read(2, 50, 50)), []api.Span{span(25, 45), span(-200, 200), span(0, 0)}, []api.Span{span(45, 55), span(50, 50)}},
		// values are 1000 at most, so that a correction is not so great either
		{suiteOf(2, 5, read(0, 990, 1000)), []api.Span{span(-200, 10), span(0, 0)}, []api.Span{span(790, 1000)}},
		{suiteOf(2, 5, read(0, -1000, -990)), []api.Span{span(-10, 200), span(0, 0)}, []api.Span{span(-1000, -790)}},
		{suiteOf(2, 5, read(0, -1000, 1000)), []api.Span{span(-200, 200), span(0, 0)}, []api.Span{span(-1000, 1000)}},
		// comparisons alone
		{four, []api.Span{span(35, 75), span(25, 55), span(-5, 5), span(0, 0)}, []api.Span{span(-1000, 1000)}},
		{with(four, check(0, 3, 70, 400)), []api.Span{span(70, 75), span(50, 55), span(0, 5), span(0, 0)}, []api.Span{span(-1000, 1000)}},
		{with(four, check(0, 3, 70, 400), check(2, 0, -70, -70)), []api.Span{span(70, 75), span(50, 55), span(0, 5), span(0, 0)}, []api.Span{span(-1000, 1000)}},
		{with(suiteOf(2, 0, unread(0)), check(0, 1, -400, 400)), []api.Span{span(-200, 200), span(0, 0)}, []api.Span{span(-1000, 1000)}},
		{with(suiteOf(2, 0, unread(0)), check(1, 0, -3, 400)), []api.Span{span(-200, 3), span(0, 0)}, []api.Span{span(-1000, 1000)}},
		{with(suiteOf(3, 0, unread(0)), check(0, 1, 400, 400)), []api.Span{span(200, 200), span(-200, -200), span(0, 0)}, []api.Span{span(-1000, 1000)}},
		// a shelter that is used again
		{suiteOf(2, 3, read(0, 10, 10), read(1, 15, 15), read(0, 14, 14)), []api.Span{span(2, 4), span(0, 0)}, []api.Span{span(12, 14), span(15, 15), span(16, 18)}},
		// readings and comparisons together
		{with(suiteOf(3, 2, read(0, 0, 1), read(1, 10, 11), read(2, 30, 31)), check(0, 1, 5, 9)), []api.Span{span(25, 32), span(17, 23), span(0, 0)}, []api.Span{span(26, 33), span(28, 33), span(30, 31)}},
	} {
		if l, e := series.Shift(x.s); !slices.Equal(l, x.shifts) || e != api.OK {
			t.Error(i, l, e)
		}
		if l, e := series.Join(x.s); !slices.Equal(l, x.values) || e != api.OK {
			t.Error(i, l, e)
		}
	}
}

// TestNotPossible is for P8.3, P8.4 and P8.5: of a series that is not possible, nothing is told; a wrong argument comes first.
func TestNotPossible(t *testing.T) {
	for i, s := range []api.SeriesSuite{
		suiteJ(), with(suiteS(), check(0, 1, 0, 3)),
		suiteOf(1, 10, read(0, 0, 0), read(0, 11, 11)),
		with(suiteOf(2, 500, read(0, 1000, 1000), unread(0)), check(0, 1, 1, 5)),
		with(suiteOf(2, 500, unread(0), unread(0)), check(0, 1, 201, 400)),
	} {
		if l, e := series.Join(s); len(l) != 0 || e != api.ErrRule {
			t.Error(i, l, e)
		}
		if l, e := series.Shift(s); len(l) != 0 || e != api.ErrRule {
			t.Error(i, l, e)
		}
		if l, e := series.Warmest(s); len(l) != 0 || e != api.ErrRule {
			t.Error(i, l, e)
		}
		for _, x := range []struct {
			a, b, level int
			want        api.Errno
		}{{0, 0, 0, api.ErrRule}, {0, 1, 1000, api.ErrRule}, {-1, 0, -1001, api.ErrArg}, {0, len(s.Years), 1001, api.ErrArg}} {
			if n, e := series.Normal(s, x.a, x.b); n != span(0, 0) || e != x.want {
				t.Error(i, x, n, e)
			}
			if n, e := series.Frost(s, x.level); n != span(0, 0) || e != x.want {
				t.Error(i, x, n, e)
			}
			if w, e := series.Warmer(s, x.a, x.b); w != 0 || e != x.want {
				t.Error(i, x, w, e)
			}
		}
		if n, e := series.Normal(s, 1, 0); n != span(0, 0) || e != api.ErrArg {
			t.Error(i, n, e)
		}
	}
}

// TestJoinOfTruths is for P8.3: bounds against all truths of small suites.
func TestJoinOfTruths(t *testing.T) {
	d := dice(8)
	counts := map[api.Errno]int{}
	for range 400 {
		s := d.small()
		seen := lookAt(s)
		shifts, e1 := series.Shift(s)
		values, e2 := series.Join(s)
		if e1 != e2 || (e1 == api.OK) != (seen.truths > 0) || e1 != api.OK && e1 != api.ErrRule {
			t.Fatal(s, seen.truths, e1, e2)
		}
		counts[e1]++
		if e1 == api.OK && (!slices.Equal(shifts, seen.shifts) || !slices.Equal(values, seen.values)) {
			t.Fatal(s, shifts, seen.shifts, values, seen.values)
		}
	}
	if counts[api.OK] < 200 || counts[api.ErrRule] < 20 {
		t.Error("too few of a kind:", counts)
	}
}

// TestJoinOfAll is for P8.3: bounds of suites of all sizes, against another way of looking at them.
func TestJoinOfAll(t *testing.T) {
	d := dice(9)
	counts := map[api.Errno]int{}
	for range 6000 {
		s := d.suite(d.among(1, 10, 100, 1000))
		want, can := worldOf(s).shrink()
		shifts, e1 := series.Shift(s)
		values, e2 := series.Join(s)
		if e1 != e2 || can != (e1 == api.OK) || !can && e1 != api.ErrRule || !slices.Equal(slices.Concat(shifts, values), want) {
			t.Fatal(s, shifts, values, want, e1, e2)
		}
		counts[e1]++
	}
	if counts[api.OK] < 3000 || counts[api.ErrRule] < 1000 {
		t.Error("too few of a kind:", counts)
	}
}

// TestJoinEnds is for P8.3: all least ones together are a truth, and so are all greatest ones; and what is true lies within the bounds.
func TestJoinEnds(t *testing.T) {
	d := dice(10)
	for range 6000 {
		s, in := d.planted(4, 10, 6, d.among(500, 50, 10), d.among(1, 10, 100, 1000))
		shifts, e1 := series.Shift(s)
		values, e2 := series.Join(s)
		if e1 != api.OK || e2 != api.OK || len(shifts) != s.Shelters || len(values) != len(s.Years) {
			t.Fatal(s, in, shifts, values, e1, e2)
		}
		if !slices.EqualFunc(shifts, in.Shifts, has) || !slices.EqualFunc(values, in.Values, has) {
			t.Fatal(s, in, shifts, values)
		}
		for _, end := range []api.SeriesTruth{{Shifts: lows(shifts), Values: lows(values)}, {Shifts: highs(shifts), Values: highs(values)}} {
			if fits, e := series.Fits(s, end); !fits || e != api.OK {
				t.Fatal(s, end, e)
			}
		}
	}
}
