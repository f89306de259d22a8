package score

import (
	"slices"

	"isobar/api"
)

// verified is a suite with a forecast, the rivals whose points are taken from those of the forecast, and the points of the parts that were met.
type verified struct {
	api.ScoreSuite
	forecast [][][]int
	rivals   [][][][]int
	met      map[statement]gains
}

// verify returns a suite with a forecast and its rivals.
func verify(s api.ScoreSuite, forecast [][][]int, rivals ...[][][]int) verified {
	return verified{s, forecast, rivals, map[statement]gains{}}
}

// points returns the points of parts for each class.
func (v verified) points(parts []int) gains {
	s := stated(parts)
	g, met := v.met[s]
	if !met {
		g = points(s)
		v.met[s] = g
	}
	return g
}

// more returns how many points the forecast has more than its rivals in a district on a day, for each class.
func (v verified) more(day, district int) gains {
	g := v.points(v.forecast[day][district])
	for _, rival := range v.rivals {
		for class, n := range v.points(rival[day][district]) {
			g[class] -= n
		}
	}
	return g
}

// bounds returns between which bounds the points of the forecast that its rivals have not lie, in all truths. The class of each day and district is its own, so that all of them can be at the same end.
func (v verified) bounds() api.Span {
	var ends [2][]int
	for day, sets := range v.Seen {
		for district, set := range sets {
			g := v.more(day, district)
			for end, take := range [2]func(set int) int{g.least, g.most} {
				ends[end] = append(ends[end], v.Weights[district]*take(set))
			}
		}
	}
	return api.Span{Low: sum(ends[0]...), High: sum(ends[1]...)}
}

// of returns what is gained for the classes of a set.
func (g gains) of(set int) []int {
	some := make([]int, 0, api.ScoreClasses)
	for class := range api.ScoreClasses {
		if set>>class&1 == 1 {
			some = append(some, g[class])
		}
	}
	return some
}

// least returns the least that is gained for a class of a set.
func (g gains) least(set int) int {
	return slices.Min(g.of(set))
}

// most returns the most that is gained for a class of a set.
func (g gains) most(set int) int {
	return slices.Max(g.of(set))
}

// climate returns the climate of a district, and its least sum.
func climate(s api.ScoreSuite, district int) (statement, int) {
	return best(statements(s.Classes, 1), func(parts statement) int {
		g := points(parts)
		least := make([]int, 0, api.ScoreDays)
		for _, sets := range s.Seen {
			least = append(least, g.least(sets[district]))
		}
		return sum(least...)
	})
}

// climates returns the forecast that states, in each district on each day, the climate of the district.
func climates(s api.ScoreSuite) [][][]int {
	var day [][]int
	for district := range s.Weights {
		parts, _ := climate(s, district)
		day = append(day, parts.parts(s.Classes))
	}
	return slices.Repeat([][][]int{day}, len(s.Seen))
}
