package score_test

import (
	"slices"
	"testing"

	"isobar/api"
	"isobar/score"
)

// TestTotal is for P6.3: the chapter's example, and the edges.
func TestTotal(t *testing.T) {
	for i, x := range []struct {
		change func(*api.ScoreSuite)
		f      [][][]int
		want   api.Span
	}{
		{func(s *api.ScoreSuite) {}, forecastF(), span(33000, 41000)},
		{func(s *api.ScoreSuite) {}, forecastH(), span(30000, 50000)},
		{func(s *api.ScoreSuite) { s.Seen[1][0] = 2 }, forecastF(), span(41000, 41000)},
		{func(s *api.ScoreSuite) { s.Seen[1][0] = 4 }, forecastF(), span(33000, 33000)},
		{func(s *api.ScoreSuite) { s.Seen[1][0] = 7 }, forecastF(), span(33000, 41000)},
		{func(s *api.ScoreSuite) { s.Seen[0][1] = 7 }, forecastF(), span(13000, 41000)},
		{func(s *api.ScoreSuite) { s.Seen[0][1] = 4 }, forecastF(), span(13000, 21000)},
		{func(s *api.ScoreSuite) { s.Weights[0] = 0 }, forecastF(), span(24800, 24800)},
		{func(s *api.ScoreSuite) { s.Weights[1] = 0 }, forecastF(), span(8200, 16200)},
		{func(s *api.ScoreSuite) { s.Weights = []int{0, 0} }, forecastF(), span(0, 0)},
		{func(s *api.ScoreSuite) { s.Weights = []int{2, 4} }, forecastF(), span(66000, 82000)},
		{func(s *api.ScoreSuite) { s.Seen = s.Seen[:1] }, forecastF()[:1], span(18600, 18600)},
		{func(s *api.ScoreSuite) { s.Seen = nil }, nil, span(0, 0)},
		{func(s *api.ScoreSuite) { s.Seen = [][]int{} }, [][][]int{}, span(0, 0)},
		{func(s *api.ScoreSuite) { *s = greatest() }, everyDay(greatest(), []int{100, 0, 0}, []int{0, 100, 0}, []int{0, 0, 100}), span(-18000000, 18000000)},
		{func(s *api.ScoreSuite) { *s = greatest() }, everyDay(greatest(), []int{34, 33, 33}, []int{33, 34, 33}, []int{33, 33, 34}), span(5878800, 6238800)},
		{func(s *api.ScoreSuite) { *s = least() }, nil, span(0, 0)},
	} {
		s := suiteS()
		x.change(&s)
		if got, e := score.Total(s, x.f); got != x.want || e != api.OK {
			t.Error(i, got, e)
		}
	}
}

// TestTotalOfAll is for P6.3: in all truths of small suites the points lie within their bounds, and both ends are reached.
func TestTotalOfAll(t *testing.T) {
	d := dice(10)
	wide := 0
	for range 1500 {
		s := d.suite(3, 2)
		f := d.forecast(s)
		want := endsOf(s, func(truth [][]int) int { return pointsIn(s, f, truth) })
		got, e := score.Total(s, f)
		if got != want || e != api.OK {
			t.Fatal(s, f, got, want, e)
		}
		if got.Low < got.High {
			wide++
		}
	}
	if wide < 500 {
		t.Error("too few are wide:", wide)
	}
}

// extreme returns a truth of a suite in which something is least, or greatest, on each day in each district.
func extreme(s api.ScoreSuite, sign int, points func(day, district, class int) int) [][]int {
	var out [][]int
	for day, sets := range s.Seen {
		var classes []int
		for number, set := range sets {
			classes = append(classes, slices.MaxFunc(classesOf(set), func(a, b int) int {
				return sign * (points(day, number, a) - points(day, number, b))
			}))
		}
		out = append(out, classes)
	}
	return out
}

// TestTotalOfMany is for P6.3: whatever is true of suites of all sizes, the points lie within their bounds, and truths are shown in which both ends are reached.
func TestTotalOfMany(t *testing.T) {
	d := dice(11)
	for range 2000 {
		s := d.suite(6, 3)
		f := d.forecast(s)
		got, e := score.Total(s, f)
		if e != api.OK {
			t.Fatal(s, f, e)
		}
		for range 10 {
			if n := pointsIn(s, f, d.truth(s)); n < got.Low || n > got.High {
				t.Fatal(s, f, got, n)
			}
		}
		points := func(day, number, class int) int { return pointsOf(f[day][number], class) }
		worst, best := extreme(s, -1, points), extreme(s, 1, points)
		if low, high := pointsIn(s, f, worst), pointsIn(s, f, best); low != got.Low || high != got.High {
			t.Fatal(s, f, got, low, high)
		}
	}
}
