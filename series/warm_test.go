package series_test

import (
	"math"
	"slices"
	"testing"

	"isobar/api"
	"isobar/series"
)

const (
	never  = api.SeriesNever
	may    = api.SeriesMay
	surely = api.SeriesSurely
)

// TestWarmer is for P8.5: the chapter's examples, and the edges.
func TestWarmer(t *testing.T) {
	s := suiteS()
	free := suiteOf(2, 5, unread(0), read(0, 10, 12), read(0, 13, 14), unread(0))
	for i, x := range []struct {
		s    api.SeriesSuite
		a, b int
		want api.SeriesWord
		e    api.Errno
	}{
		{s, 1, 0, surely, api.OK},
		{s, 1, 4, may, api.OK},
		{s, 0, 1, never, api.OK},
		{s, 4, 1, may, api.OK},
		{s, 3, 4, surely, api.OK},
		{s, 2, 3, may, api.OK},
		{s, 2, 4, may, api.OK},
		{s, 4, 2, may, api.OK},
		{s, 0, 0, never, api.OK},
		{s, 4, 4, never, api.OK},
		// the bounds of both overlap, but not in any truth: one shelter has one correction
		{free, 2, 1, surely, api.OK},
		{free, 1, 2, never, api.OK},
		{free, 0, 1, may, api.OK},
		{free, 1, 0, may, api.OK},
		{free, 0, 3, may, api.OK},
		// by 1 at least, by 0 at least, by 0 at most, and by 1 at most
		{suiteOf(1, 9, read(0, 3, 5), read(0, 0, 2)), 0, 1, surely, api.OK},
		{suiteOf(1, 9, read(0, 2, 5), read(0, 0, 2)), 0, 1, may, api.OK},
		{suiteOf(1, 9, read(0, 0, 2), read(0, 2, 5)), 0, 1, never, api.OK},
		{suiteOf(1, 9, read(0, 0, 2), read(0, 1, 5)), 0, 1, may, api.OK},
		{suiteOf(1, 9, read(0, 2, 2), read(0, 2, 2)), 0, 1, never, api.OK},
		{suiteOf(1, 0, read(0, 0, 9), read(0, 0, 9)), 0, 1, never, api.OK},
		{suiteOf(1, 0, unread(0), unread(0)), 1, 0, never, api.OK},
		{suiteOf(1, 1, unread(0), unread(0)), 1, 0, may, api.OK},
		{suiteOf(1, 1, unread(0)), 0, 0, never, api.OK},
		{s, -1, 0, 0, api.ErrArg},
		{s, 0, -1, 0, api.ErrArg},
		{s, 5, 0, 0, api.ErrArg},
		{s, 0, 5, 0, api.ErrArg},
		{s, 5, 5, 0, api.ErrArg},
		{s, math.MinInt, 0, 0, api.ErrArg},
		{s, 0, math.MaxInt, 0, api.ErrArg},
		{suiteJ(), 1, 0, 0, api.ErrRule},
		{suiteJ(), 1, 5, 0, api.ErrArg},
	} {
		if w, e := series.Warmer(x.s, x.a, x.b); w != x.want || e != x.e {
			t.Error(i, w, e)
		}
	}
}

// TestWarmest is for P8.5: the chapter's example, and the edges.
func TestWarmest(t *testing.T) {
	for i, x := range []struct {
		s    api.SeriesSuite
		want []api.SeriesWord
	}{
		{suiteS(), []api.SeriesWord{never, never, may, may, never}},
		{suiteOf(1, 0, unread(0)), []api.SeriesWord{surely}},
		// years that are as warm as another one are the warmest together
		{suiteOf(1, 0, unread(0), unread(0)), []api.SeriesWord{surely, surely}},
		{suiteOf(1, 9, read(0, 5, 5), read(0, 5, 5), read(0, 4, 4)), []api.SeriesWord{surely, surely, never}},
		{suiteOf(1, 1, unread(0), unread(0)), []api.SeriesWord{may, may}},
		{suiteOf(1, 9, read(0, 2, 5), read(0, 0, 2)), []api.SeriesWord{surely, may}},
		{suiteOf(1, 9, read(0, 2, 5), read(0, 0, 3)), []api.SeriesWord{may, may}},
		{suiteOf(1, 9, read(0, 3, 5), read(0, 0, 2)), []api.SeriesWord{surely, never}},
		{suiteOf(1, 9, read(0, 0, 2), read(0, 3, 5), read(0, 3, 7)), []api.SeriesWord{never, may, may}},
		{suiteOf(1, 9, read(0, 0, 2), read(0, 3, 5), read(0, 5, 7)), []api.SeriesWord{never, may, surely}},
		// before the last year, the others are not yet warmer
		{suiteOf(1, 9, unread(0), unread(0), read(0, 3, 5)), []api.SeriesWord{may, may, may}},
		{suiteOf(2, 5, read(0, 10, 12), read(0, 13, 14), unread(0)), []api.SeriesWord{never, may, may}},
	} {
		if l, e := series.Warmest(x.s); !slices.Equal(l, x.want) || e != api.OK {
			t.Error(i, l, e)
		}
	}
	if l, e := series.Warmest(suiteJ()); len(l) != 0 || e != api.ErrRule {
		t.Error(l, e)
	}
}

// wordOf returns what is known of something that is so in some truths, and not in others.
func wordOf(is, isNot bool) api.SeriesWord {
	switch {
	case !is:
		return never
	case isNot:
		return may
	}
	return surely
}

// TestWarmerOfTruths is for P8.5: what is known of years against all truths of small suites.
func TestWarmerOfTruths(t *testing.T) {
	d := dice(13)
	counts := map[api.SeriesWord]int{}
	for range 400 {
		s := d.small()
		seen := lookAt(s)
		if seen.truths == 0 {
			continue
		}
		warmest, e := series.Warmest(s)
		if e != api.OK || len(warmest) != len(s.Years) {
			t.Fatal(s, warmest, e)
		}
		for a := range s.Years {
			if want := wordOf(seen.warmest[a] > 0, seen.warmest[a] < seen.truths); warmest[a] != want {
				t.Fatal(s, a, warmest, want)
			}
			counts[10+warmest[a]]++
			for b := range s.Years {
				above := seen.above[a][b]
				w, e := series.Warmer(s, a, b)
				if want := wordOf(above.High > 0, above.Low <= 0); w != want || e != api.OK {
					t.Fatal(s, a, b, w, want, e)
				}
				counts[w]++
			}
		}
	}
	for _, w := range []api.SeriesWord{never, may, surely, 10 + never, 10 + may, 10 + surely} {
		if counts[w] < 50 {
			t.Error("too few of a kind:", counts)
		}
	}
}

// TestWarmerOfAll is for P8.5: what is known of years of suites of all sizes, against whether a series is possible in which it is so, and one in which it is not.
func TestWarmerOfAll(t *testing.T) {
	d := dice(14)
	counts := map[api.SeriesWord]int{}
	for range 600 {
		s, _ := d.planted(4, 10, 6, d.among(500, 50, 10, 5), d.among(1, 10, 100))
		w := worldOf(s)
		warmest, e := series.Warmest(s)
		if e != api.OK || len(warmest) != len(s.Years) {
			t.Fatal(s, warmest, e)
		}
		above := func(a, b, low, high int) rule { return rule{s.Shelters + a, s.Shelters + b, span(low, high)} }
		for a := range s.Years {
			var best []rule
			beaten := false
			for b := range s.Years {
				is, isNot := w.and(above(a, b, 1, far)).possible(), w.and(above(a, b, -far, 0)).possible()
				word, e := series.Warmer(s, a, b)
				if word != wordOf(is, isNot) || e != api.OK {
					t.Fatal(s, a, b, word, is, isNot, e)
				}
				counts[word]++
				best = append(best, above(a, b, 0, far))
				beaten = beaten || w.and(above(b, a, 1, far)).possible()
			}
			if want := wordOf(w.and(best...).possible(), beaten); warmest[a] != want {
				t.Fatal(s, a, warmest, want)
			}
			counts[10+warmest[a]]++
		}
	}
	for _, w := range []api.SeriesWord{never, may, surely, 10 + never, 10 + may, 10 + surely} {
		if counts[w] < 100 {
			t.Error("too few of a kind:", counts)
		}
	}
}

// TestWarmerInTruth is for P8.5: whatever is true, a year that surely is warmer is, and one that never is is not.
func TestWarmerInTruth(t *testing.T) {
	d := dice(15)
	for range 3000 {
		s, in := d.planted(4, 10, 6, d.among(500, 50, 10, 5), d.among(1, 10, 100))
		warmest, e := series.Warmest(s)
		if e != api.OK {
			t.Fatal(s, e)
		}
		for a, value := range in.Values {
			if is := value == slices.Max(in.Values); is && warmest[a] == never || !is && warmest[a] == surely {
				t.Fatal(s, in, a, warmest)
			}
			for b, other := range in.Values {
				w, e := series.Warmer(s, a, b)
				if is := value > other; e != api.OK || is && w == never || !is && w == surely {
					t.Fatal(s, in, a, b, w, e)
				}
			}
		}
	}
}
