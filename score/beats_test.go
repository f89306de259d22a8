package score_test

import (
	"slices"
	"testing"

	"isobar/api"
	"isobar/score"
)

// TestBeats is for P6.5: the chapter's examples, and the edges.
func TestBeats(t *testing.T) {
	day := func(parts ...[]int) [][][]int { return [][][]int{parts} }
	for i, x := range []struct {
		s    api.ScoreSuite
		a, b [][][]int
		want api.ScoreWord
	}{
		{suiteS(), forecastF(), forecastH(), may}, {suiteS(), forecastH(), forecastF(), may},
		{suiteS(), forecastF(), forecastF(), never}, {suiteS(), forecastH(), forecastH(), never},
		{seen(2, 1), day([]int{60, 40}), day([]int{59, 41}), surely}, {seen(2, 1), day([]int{59, 41}), day([]int{60, 40}), never},
		{seen(2, 2), day([]int{60, 40}), day([]int{59, 41}), never}, {seen(2, 3), day([]int{60, 40}), day([]int{59, 41}), may},
		{seen(2, 3), day([]int{59, 41}), day([]int{60, 40}), may},
		// as many points if the class 0 comes: more if another one does, or fewer
		{seen(3, 1), day([]int{60, 30, 10}), day([]int{60, 10, 30}), never},
		{seen(3, 3), day([]int{60, 30, 10}), day([]int{60, 10, 30}), may},
		{seen(3, 5), day([]int{60, 30, 10}), day([]int{60, 10, 30}), never},
		{seen(3, 7), day([]int{60, 30, 10}), day([]int{60, 10, 30}), may},
		{seen(3, 3), day([]int{60, 20, 20}), day([]int{59, 21, 20}), may}, {seen(3, 5), day([]int{60, 20, 20}), day([]int{60, 40, 0}), surely},
		// what is lost on one day is won on another one, and a point more
		{seen(2, 1, 2), [][][]int{{{60, 40}}, {{40, 60}}}, [][][]int{{{40, 60}}, {{60, 40}}}, surely},
		{seen(2, 1, 2), [][][]int{{{60, 40}}, {{60, 40}}}, [][][]int{{{40, 60}}, {{40, 60}}}, never},
		{seen(2, 1, 2), [][][]int{{{50, 50}}, {{50, 50}}}, [][][]int{{{51, 49}}, {{51, 49}}}, surely},
		{seen(2, 1, 3), [][][]int{{{100, 0}}, {{50, 50}}}, [][][]int{{{0, 100}}, {{100, 0}}}, surely},
		// weights of 1 and 2, of 0, and no days
		{api.ScoreSuite{Classes: 2, Weights: []int{1, 2}, Seen: [][]int{{1, 1}}}, day([]int{0, 100}, []int{100, 0}), day([]int{100, 0}, []int{0, 100}), surely},
		{api.ScoreSuite{Classes: 2, Weights: []int{2, 2}, Seen: [][]int{{1, 1}}}, day([]int{0, 100}, []int{100, 0}), day([]int{100, 0}, []int{0, 100}), never},
		{api.ScoreSuite{Classes: 2, Weights: []int{2, 1}, Seen: [][]int{{1, 1}}}, day([]int{0, 100}, []int{100, 0}), day([]int{100, 0}, []int{0, 100}), never},
		{api.ScoreSuite{Classes: 2, Weights: []int{0, 0}, Seen: [][]int{{1, 3}}}, day([]int{100, 0}, []int{100, 0}), day([]int{0, 100}, []int{0, 100}), never},
		{least(), nil, nil, never}, {seen(3), nil, [][][]int{}, never},
	} {
		if got, e := score.Beats(x.s, x.a, x.b); got != x.want || e != api.OK {
			t.Error(i, got, e)
		}
	}
}

// rival returns a forecast that differs from another one in some parts.
func (d dicer) rival(s api.ScoreSuite, f [][][]int) [][][]int {
	if d.IntN(3) == 0 {
		return d.forecast(s)
	}
	out := make([][][]int, len(f))
	for day := range f {
		out[day] = append(out[day], f[day]...)
		for number := range out[day] {
			switch d.IntN(3) {
			case 0:
				out[day][number] = d.parts(s.Classes)
			case 1: // as good for the first class
				parts := slices.Clone(out[day][number])
				slices.Reverse(parts[s.Classes-2:])
				out[day][number] = parts
			}
		}
	}
	return out
}

// TestBeatsOfAll is for P6.5: in all truths of small suites, a forecast that surely is better has more points, one that never is has not, and one that may be has more in some truth, and not in another one.
func TestBeatsOfAll(t *testing.T) {
	d := dice(30)
	counts, equal := map[api.ScoreWord]int{}, 0
	for range 3000 {
		s := d.suite(3, 2)
		a := d.forecast(s)
		b := d.rival(s, a)
		more := endsOf(s, func(truth [][]int) int { return pointsIn(s, a, truth) - pointsIn(s, b, truth) })
		want := may
		switch {
		case more.Low > 0:
			want = surely
		case more.High <= 0:
			want = never
		}
		got, e := score.Beats(s, a, b)
		if got != want || e != api.OK {
			t.Fatal(s, a, b, got, want, e)
		}
		counts[got]++
		if more.Low < more.High && more.Low*more.High == 0 {
			equal++
		}
	}
	if counts[never] < 500 || counts[may] < 500 || counts[surely] < 500 || equal < 20 {
		t.Error("too few of a kind:", counts, equal)
	}
}

// TestBeatsOfMany is for P6.5: whatever is true of suites of all sizes, what is said of two forecasts, each way round, is so.
func TestBeatsOfMany(t *testing.T) {
	d := dice(31)
	for range 3000 {
		s := d.suite(6, 3)
		a := d.forecast(s)
		b := d.rival(s, a)
		one, e := score.Beats(s, a, b)
		other, f := score.Beats(s, b, a)
		if e != api.OK || f != api.OK || one == surely && other != never || other == surely && one != never {
			t.Fatal(s, a, b, one, other, e, f)
		}
		for range 10 {
			truth := d.truth(s)
			more := pointsIn(s, a, truth) - pointsIn(s, b, truth)
			if one == surely && more <= 0 || one == never && more > 0 || other == surely && more >= 0 || other == never && more < 0 {
				t.Fatal(s, a, b, truth, one, other, more)
			}
		}
	}
}
