package score_test

import (
	"math"
	"slices"
	"testing"

	"isobar/api"
	"isobar/score"
)

// greatest returns a suite with all numbers as great as they can be, and all lists as long.
func greatest() api.ScoreSuite {
	s := api.ScoreSuite{Classes: 3, Weights: []int{100, 100, 100}}
	for range 6 {
		s.Seen = append(s.Seen, []int{7, 7, 7})
	}
	return s
}

// least returns a suite with all numbers as small as they can be, and all lists as short.
func least() api.ScoreSuite { return api.ScoreSuite{Classes: 2, Weights: []int{0}} }

// spoiled returns the suites to which some changes make the chapter's suite s.
func spoiled(changes ...func(*api.ScoreSuite)) []api.ScoreSuite {
	var out []api.ScoreSuite
	for _, change := range changes {
		s := suiteS()
		change(&s)
		out = append(out, s)
	}
	return out
}

// wrongSuites returns suites that are not as defined.
func wrongSuites() []api.ScoreSuite {
	return append(spoiled(
		func(s *api.ScoreSuite) { s.Classes = 1 },
		func(s *api.ScoreSuite) { s.Classes = 2 },
		func(s *api.ScoreSuite) { s.Classes = 4 },
		func(s *api.ScoreSuite) { s.Classes = 0 },
		func(s *api.ScoreSuite) { s.Classes = -1 },
		func(s *api.ScoreSuite) { s.Classes = math.MinInt },
		func(s *api.ScoreSuite) { s.Classes = math.MaxInt },
		func(s *api.ScoreSuite) { s.Classes, s.Seen = 1, nil },
		func(s *api.ScoreSuite) { s.Classes, s.Seen = 1, [][]int{{1, 1}} },
		func(s *api.ScoreSuite) { s.Classes, s.Seen = 4, nil },
		func(s *api.ScoreSuite) { s.Weights = nil },
		func(s *api.ScoreSuite) { s.Weights, s.Seen = nil, nil },
		func(s *api.ScoreSuite) { s.Weights, s.Seen = nil, [][]int{nil, {}} },
		func(s *api.ScoreSuite) { s.Weights = s.Weights[:1] },
		func(s *api.ScoreSuite) { s.Weights = append(s.Weights, 3) },
		func(s *api.ScoreSuite) { s.Weights, s.Seen = []int{1, 2, 3, 4}, nil },
		func(s *api.ScoreSuite) { s.Weights, s.Seen = []int{1, 2, 3, 4}, [][]int{{1, 1, 1, 1}} },
		func(s *api.ScoreSuite) { s.Weights[0] = -1 },
		func(s *api.ScoreSuite) { s.Weights[1] = -1 },
		func(s *api.ScoreSuite) { s.Weights[1] = 101 },
		func(s *api.ScoreSuite) { s.Weights[0] = math.MaxInt },
		func(s *api.ScoreSuite) { s.Weights[0] = math.MinInt },
		func(s *api.ScoreSuite) { s.Seen = slices.Repeat(s.Seen[:1], 7) },
		func(s *api.ScoreSuite) { s.Seen[0] = nil },
		func(s *api.ScoreSuite) { s.Seen[1] = []int{} },
		func(s *api.ScoreSuite) { s.Seen[0] = []int{1} },
		func(s *api.ScoreSuite) { s.Seen[1] = []int{1, 2, 4} },
		func(s *api.ScoreSuite) { s.Seen[0][0] = 0 },
		func(s *api.ScoreSuite) { s.Seen[1][1] = 0 },
		func(s *api.ScoreSuite) { s.Seen[1][1] = 8 },
		func(s *api.ScoreSuite) { s.Seen[0][1] = -1 },
		func(s *api.ScoreSuite) { s.Seen[0][1] = 9 },
		func(s *api.ScoreSuite) { s.Seen[0][0] = math.MinInt },
		func(s *api.ScoreSuite) { s.Seen[0][0] = math.MaxInt },
	), api.ScoreSuite{}, api.ScoreSuite{Classes: 2, Weights: []int{1}, Seen: [][]int{{4}}}, api.ScoreSuite{Classes: 2, Weights: []int{1}, Seen: [][]int{{3}, {5}}})
}

// TestCheck is for P6.3.
func TestCheck(t *testing.T) {
	right := append(spoiled(
		func(s *api.ScoreSuite) {},
		func(s *api.ScoreSuite) { s.Seen = nil },
		func(s *api.ScoreSuite) { s.Seen = [][]int{} },
		func(s *api.ScoreSuite) { s.Seen = s.Seen[:1] },
		func(s *api.ScoreSuite) { s.Seen = slices.Repeat(s.Seen, 3) },
		func(s *api.ScoreSuite) { s.Weights[0], s.Weights[1] = 0, 100 },
		func(s *api.ScoreSuite) { s.Weights[0], s.Weights[1] = 0, 0 },
		func(s *api.ScoreSuite) { s.Seen[0][0], s.Seen[1][1] = 7, 5 },
		func(s *api.ScoreSuite) { s.Classes, s.Seen = 2, [][]int{{1, 2}, {3, 3}} },
	), greatest(), least())
	for i, s := range right {
		if e := score.Check(s); e != api.OK {
			t.Error(i, e)
		}
	}
	for i, s := range wrongSuites() {
		if e := score.Check(s); e != api.ErrArg {
			t.Error(i, e)
		}
	}
}

// wrongForecasts returns what are no forecasts of the chapter's suite s.
func wrongForecasts() [][][][]int {
	f := forecastF()
	out := [][][][]int{
		nil, {}, f[:1], append(forecastF(), f[0]),
		{f[0], nil}, {{}, f[1]}, {f[0], f[1][:1]}, {f[0], append(forecastF()[1], f[1][0])},
	}
	for _, parts := range append(wrongParts(), []int{60, 40}, []int{0, 100}) {
		for day := range 2 {
			for district := range 2 {
				wrong := forecastF()
				wrong[day][district] = parts
				out = append(out, wrong)
			}
		}
	}
	return out
}

// TestForecastErrors is for P6.3, P6.4 and P6.5.
func TestForecastErrors(t *testing.T) {
	none := api.Span{}
	check := func(what any, total, skill api.Span, one, other api.ScoreWord, errors ...api.Errno) {
		if total != none || skill != none || one != 0 || other != 0 || slices.ContainsFunc(errors, func(e api.Errno) bool { return e != api.ErrArg }) {
			t.Error(what, total, skill, one, other, errors)
		}
	}
	ask := func(s api.ScoreSuite, f, right [][][]int) {
		total, e1 := score.Total(s, f)
		skill, e2 := score.Skill(s, f)
		one, e3 := score.Beats(s, f, right)
		other, e4 := score.Beats(s, right, f)
		check([]any{s, f}, total, skill, one, other, e1, e2, e3, e4)
	}
	for _, f := range wrongForecasts() {
		ask(suiteS(), f, forecastF())
	}
	for _, s := range wrongSuites() {
		ask(s, forecastF(), forecastF())
		ask(s, nil, nil)
	}
	two := api.ScoreSuite{Classes: 2, Weights: []int{1}, Seen: [][]int{{1}}}
	ask(two, [][][]int{{{100, 0, 0}}}, [][][]int{{{100, 0}}})
	ask(least(), [][][]int{{{100, 0}}}, nil)
	ask(least(), [][][]int{nil}, [][][]int{})
}
