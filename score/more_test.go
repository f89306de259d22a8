package score_test

import (
	"slices"
	"testing"

	"isobar/api"
	"isobar/score"
)

// inside reports whether a span lies within another one.
func inside(s, other api.Span) bool { return other.Low <= s.Low && s.High <= other.High }

// TestSeenMoreClosely is for P6.8: what is seen more closely never makes the bounds of points wider, nor what is said of two forecasts less sure.
func TestSeenMoreClosely(t *testing.T) {
	d := dice(60)
	narrow, told := 0, 0
	for range 3000 {
		s := d.suite(6, 3)
		f := d.forecast(s)
		g := d.rival(s, f)
		n := d.narrower(s)
		wide, e1 := score.Total(s, f)
		near, e2 := score.Total(n, f)
		if e1 != api.OK || e2 != api.OK || !inside(near, wide) {
			t.Fatal(s, n, f, wide, near, e1, e2)
		}
		if near != wide {
			narrow++
		}
		was, e1 := score.Beats(s, f, g)
		is, e2 := score.Beats(n, f, g)
		if e1 != api.OK || e2 != api.OK || was != may && is != was {
			t.Fatal(s, n, f, g, was, is, e1, e2)
		}
		if was != is {
			told++
		}
	}
	if narrow < 1000 || told < 100 {
		t.Error("too few are narrower:", narrow, told)
	}
}

// TestClimateSeenMoreClosely is for P6.8 and P6.4: the least sum of a climate never is smaller if days are seen more closely, and where the climates remain the same, the bounds of the skill are no wider.
func TestClimateSeenMoreClosely(t *testing.T) {
	d := dice(61)
	greater, same := 0, 0
	for range 400 {
		s := d.suite(6, 2)
		f := d.forecast(s)
		n := d.narrower(s)
		remain := true
		for number := range s.Weights {
			was, sum, e1 := score.Climate(s, number)
			is, more, e2 := score.Climate(n, number)
			if e1 != api.OK || e2 != api.OK || more < sum {
				t.Fatal(s, n, number, sum, more, e1, e2)
			}
			if more > sum {
				greater++
			}
			remain = remain && slices.Equal(was, is)
		}
		wide, e1 := score.Skill(s, f)
		near, e2 := score.Skill(n, f)
		if e1 != api.OK || e2 != api.OK || remain && !inside(near, wide) {
			t.Fatal(s, n, f, wide, near, e1, e2)
		}
		if remain && near != wide {
			same++
		}
	}
	if greater < 50 || same < 20 {
		t.Error("too few of a kind:", greater, same)
	}
}

// TestAsItCame is for P6.8 and P6.5: a forecast by which each day is stated as it came is never beaten, whatever else is stated; it has all points that there are, and skill.
func TestAsItCame(t *testing.T) {
	d := dice(62)
	beaten := 0
	for range 2000 {
		s := d.suite(6, 3)
		truth := d.truth(s)
		right := asItCame(s, truth)
		other := d.rival(s, right)
		exact := exactly(s, truth)
		if word, e := score.Beats(exact, other, right); word != never || e != api.OK {
			t.Fatal(exact, other, word, e)
		}
		all, weights := 0, 0
		for _, weight := range s.Weights {
			weights += weight
		}
		all = 10000 * weights * len(s.Seen)
		if total, e := score.Total(exact, right); total != span(all, all) || e != api.OK {
			t.Fatal(exact, total, e)
		}
		less, e := score.Total(exact, other)
		if less.Low != less.High || less.High > all || e != api.OK {
			t.Fatal(exact, other, less, e)
		}
		word, e := score.Beats(exact, right, other)
		if e != api.OK || (word == surely) != (less.High < all) || word == may {
			t.Fatal(exact, other, word, e)
		}
		if word == surely {
			beaten++
		}
		// in the truth in which it is right, it is not beaten, so that nothing else surely is better
		if word, e := score.Beats(s, other, right); word == surely || e != api.OK {
			t.Fatal(s, other, right, word, e)
		}
	}
	if beaten < 500 {
		t.Error("too few are beaten:", beaten)
	}
}

// TestSkillAsItCame is for P6.8 and P6.4: where it is known what came, a forecast by which each day is stated as it came has more skill than others, and never less than none.
func TestSkillAsItCame(t *testing.T) {
	d := dice(63)
	for range 200 {
		s := d.suite(6, 3)
		truth := d.truth(s)
		exact := exactly(s, truth)
		right := asItCame(s, truth)
		most, e1 := score.Skill(exact, right)
		less, e2 := score.Skill(exact, d.rival(s, right))
		if e1 != api.OK || e2 != api.OK || most.Low < 0 || most.Low != most.High || less.High > most.Low {
			t.Fatal(exact, most, less, e1, e2)
		}
	}
}

// TestDaysInAnotherOrder is for P6.3 to P6.5: days in another order, and districts in another order with their weights, have the same points, climates and skill.
func TestDaysInAnotherOrder(t *testing.T) {
	d := dice(64)
	for range 200 {
		s := d.suite(6, 3)
		f := d.forecast(s)
		days, districts := d.Perm(len(s.Seen)), d.Perm(len(s.Weights))
		other := api.ScoreSuite{Classes: s.Classes}
		for _, number := range districts {
			other.Weights = append(other.Weights, s.Weights[number])
		}
		var g [][][]int
		for _, day := range days {
			var sets []int
			var stated [][]int
			for _, number := range districts {
				sets, stated = append(sets, s.Seen[day][number]), append(stated, f[day][number])
			}
			other.Seen, g = append(other.Seen, sets), append(g, stated)
		}
		one, _ := score.Total(s, f)
		two, e := score.Total(other, g)
		if one != two || e != api.OK {
			t.Fatal(s, f, other, g, one, two, e)
		}
		one, _ = score.Skill(s, f)
		two, e = score.Skill(other, g)
		if one != two || e != api.OK {
			t.Fatal(s, f, other, g, one, two, e)
		}
		for to, from := range districts {
			was, _, _ := score.Climate(s, from)
			if is, _, e := score.Climate(other, to); !slices.Equal(was, is) || e != api.OK {
				t.Fatal(s, other, from, to, was, is, e)
			}
		}
	}
}
