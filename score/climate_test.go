package score_test

import (
	"math"
	"slices"
	"testing"

	"isobar/api"
	"isobar/score"
)

// seen returns a suite of one district with some sets.
func seen(classes int, sets ...int) api.ScoreSuite {
	s := api.ScoreSuite{Classes: classes, Weights: []int{1}}
	for _, set := range sets {
		s.Seen = append(s.Seen, []int{set})
	}
	return s
}

// TestClimate is for P6.4: the chapter's examples, the edges, and the first one of several.
func TestClimate(t *testing.T) {
	twice := suiteS()
	twice.Weights = []int{0, 100}
	for i, x := range []struct {
		s        api.ScoreSuite
		district int
		want     []int
		least    int
	}{
		{suiteS(), 0, []int{50, 25, 25}, 7500}, {suiteS(), 1, []int{50, 50, 0}, 10000},
		{twice, 0, []int{50, 25, 25}, 7500}, {twice, 1, []int{50, 50, 0}, 10000},
		{seen(2, 1), 0, []int{100, 0}, 10000}, {seen(2, 2), 0, []int{0, 100}, 10000}, {seen(2, 3), 0, []int{50, 50}, 5000},
		{seen(3, 1), 0, []int{100, 0, 0}, 10000}, {seen(3, 2), 0, []int{0, 100, 0}, 10000}, {seen(3, 4), 0, []int{0, 0, 100}, 10000},
		{seen(3, 3), 0, []int{50, 50, 0}, 5000}, {seen(3, 5), 0, []int{50, 0, 50}, 5000}, {seen(3, 6), 0, []int{0, 50, 50}, 5000},
		{seen(2, 1, 1, 2), 0, []int{67, 33}, 16666}, {seen(2, 1, 2, 2), 0, []int{33, 67}, 16666}, {seen(2, 1, 3, 3), 0, []int{50, 50}, 15000},
		{seen(2, 1, 2, 3), 0, []int{50, 50}, 15000}, {seen(2, 1, 1, 3), 0, []int{67, 33}, 16666}, {seen(2, 1, 1, 1, 1, 2, 2), 0, []int{67, 33}, 33332}, {seen(2, 1, 1, 1, 1, 1, 3), 0, []int{83, 17}, 43332},
		// of several, the first one: as good are 33 34 33 and 34 33 33, and all parts where there are no days
		{seen(3, 7), 0, []int{33, 33, 34}, 3266}, {seen(3, 1, 2, 4), 0, []int{33, 33, 34}, 9998}, {seen(3, 7, 7, 7, 7, 7, 7), 0, []int{33, 33, 34}, 19596},
		{least(), 0, []int{0, 100}, 0}, {seen(3), 0, []int{0, 0, 100}, 0}, {api.ScoreSuite{Classes: 3, Weights: []int{5, 0, 7}}, 2, []int{0, 0, 100}, 0},
	} {
		got, n, e := score.Climate(x.s, x.district)
		if !slices.Equal(got, x.want) || n != x.least || e != api.OK {
			t.Error(i, got, n, e)
		}
	}
}

// TestClimateOfAll is for P6.4: of all parts, in all truths of small suites, those that are returned have the greatest least sum, and are the first ones.
func TestClimateOfAll(t *testing.T) {
	d := dice(20)
	for range 120 {
		s := d.suite(3, 3)
		for number := range s.Weights {
			want, most := climateOf(s, number, leastSum)
			if got, n, e := score.Climate(s, number); !slices.Equal(got, want) || n != most || e != api.OK {
				t.Fatal(s, number, got, n, e, want, most)
			}
		}
	}
}

// TestClimateOfMany is for P6.4: no parts that somebody proposes have a greater least sum, nor one as great if they come before, in suites of all sizes.
func TestClimateOfMany(t *testing.T) {
	d := dice(21)
	for range 300 {
		s := d.suite(6, 3)
		for number := range s.Weights {
			want, most := climateOf(s, number, quickSum)
			got, n, e := score.Climate(s, number)
			if !slices.Equal(got, want) || n != most || e != api.OK {
				t.Fatal(s, number, got, n, e, want, most)
			}
			one := district(s, number)
			if total, e := score.Total(one, everyDay(one, got)); total.Low != n || e != api.OK {
				t.Fatal(s, number, got, n, total, e)
			}
		}
	}
}

// TestClimateErrors is for P6.4.
func TestClimateErrors(t *testing.T) {
	for _, s := range wrongSuites() {
		if got, n, e := score.Climate(s, 0); len(got) != 0 || n != 0 || e != api.ErrArg {
			t.Error(s, got, n, e)
		}
	}
	for _, s := range []api.ScoreSuite{suiteS(), greatest(), least()} {
		for _, number := range []int{-1, len(s.Weights), len(s.Weights) + 1, math.MinInt, math.MaxInt} {
			if got, n, e := score.Climate(s, number); len(got) != 0 || n != 0 || e != api.ErrArg {
				t.Error(s, number, got, n, e)
			}
		}
	}
}

// TestSkill is for P6.4: the chapter's example, and the edges.
func TestSkill(t *testing.T) {
	climates := everyDay(suiteS(), []int{50, 25, 25}, []int{50, 50, 0})
	for i, x := range []struct {
		change func(*api.ScoreSuite)
		f      [][][]int
		want   api.Span
	}{
		{func(s *api.ScoreSuite) {}, forecastF(), span(5500, 13500)},
		{func(s *api.ScoreSuite) {}, climates, span(0, 0)},
		{func(s *api.ScoreSuite) {}, forecastH(), span(2500, 22500)},
		{func(s *api.ScoreSuite) { s.Weights = []int{1, 0} }, forecastF(), span(700, 8700)},
		{func(s *api.ScoreSuite) { s.Weights = []int{0, 1} }, forecastF(), span(2400, 2400)},
		{func(s *api.ScoreSuite) { s.Weights = []int{10, 0} }, forecastF(), span(7000, 87000)},
		{func(s *api.ScoreSuite) { s.Weights = []int{0, 0} }, forecastF(), span(0, 0)},
		{func(s *api.ScoreSuite) { s.Seen = nil }, nil, span(0, 0)},
		// what is seen more closely can change the climate, and with it the skill
		{func(s *api.ScoreSuite) { *s = seen(2, 3, 3, 3) }, [][][]int{{{50, 50}}, {{50, 50}}, {{50, 50}}}, span(0, 0)},
		{func(s *api.ScoreSuite) { *s = seen(2, 1, 1, 3) }, [][][]int{{{50, 50}}, {{50, 50}}, {{50, 50}}}, span(-8466, -1666)},
		{func(s *api.ScoreSuite) { *s = greatest() }, everyDay(greatest(), []int{100, 0, 0}, []int{0, 100, 0}, []int{0, 0, 100}), span(-24118800, 12001200)},
	} {
		s := suiteS()
		x.change(&s)
		if got, e := score.Skill(s, x.f); got != x.want || e != api.OK {
			t.Error(i, got, e)
		}
	}
}

// TestSkillOfAll is for P6.4: in all truths of small suites the skill lies within its bounds, and both ends are reached.
func TestSkillOfAll(t *testing.T) {
	d := dice(22)
	wide := 0
	for range 300 {
		s := d.suite(3, 2)
		f, c := d.forecast(s), climatesOf(s)
		want := endsOf(s, func(truth [][]int) int { return pointsIn(s, f, truth) - pointsIn(s, c, truth) })
		got, e := score.Skill(s, f)
		if got != want || e != api.OK {
			t.Fatal(s, f, got, want, e)
		}
		if got.Low < got.High {
			wide++
		}
		if none, e := score.Skill(s, c); none != span(0, 0) || e != api.OK {
			t.Fatal(s, c, none, e)
		}
	}
	if wide < 100 {
		t.Error("too few are wide:", wide)
	}
}

// TestSkillOfMany is for P6.4: whatever is true of suites of all sizes, the skill lies within its bounds, and truths are shown in which both ends are reached.
func TestSkillOfMany(t *testing.T) {
	d := dice(23)
	for range 300 {
		s := d.suite(6, 3)
		f, c := d.forecast(s), climatesOf(s)
		got, e := score.Skill(s, f)
		if e != api.OK {
			t.Fatal(s, f, e)
		}
		skill := func(truth [][]int) int { return pointsIn(s, f, truth) - pointsIn(s, c, truth) }
		for range 10 {
			if n := skill(d.truth(s)); n < got.Low || n > got.High {
				t.Fatal(s, f, got, n)
			}
		}
		points := func(day, number, class int) int {
			return pointsOf(f[day][number], class) - pointsOf(c[day][number], class)
		}
		if low, high := skill(extreme(s, -1, points)), skill(extreme(s, 1, points)); low != got.Low || high != got.High {
			t.Fatal(s, f, got, low, high)
		}
	}
}
