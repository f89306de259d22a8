package score

import (
	"slices"

	"isobar/api"
)

const (
	fewest   = 2             // the fewest classes
	coarse   = 5             // the least step of a table
	farthest = whole * whole // the most points that parts gain, or lose
)

// between reports whether a number lies from low to high.
func between(n, low, high int) bool {
	return low <= n && n <= high
}

// all reports whether all of some numbers lie from low to high.
func all(numbers []int, low, high int) bool {
	for _, n := range numbers {
		if !between(n, low, high) {
			return false
		}
	}
	return true
}

// soundClasses reports whether there can be so many classes.
func soundClasses(classes int) bool {
	return between(classes, fewest, api.ScoreClasses)
}

// soundParts reports whether a list is parts.
func soundParts(parts []int) bool {
	return soundClasses(len(parts)) && all(parts, 0, whole) && sum(parts...) == whole
}

// soundStep reports whether a number is a step.
func soundStep(step int) bool {
	return between(step, 1, whole) && whole%step == 0
}

// soundSuite reports whether a suite is as defined.
func soundSuite(s api.ScoreSuite) bool {
	if !soundClasses(s.Classes) || len(s.Seen) > api.ScoreDays ||
		!between(len(s.Weights), 1, api.ScoreDistricts) || !all(s.Weights, 0, api.ScoreWeight) {
		return false
	}
	for _, sets := range s.Seen {
		if len(sets) != len(s.Weights) || !all(sets, 1, 1<<s.Classes-1) {
			return false
		}
	}
	return true
}

// soundForecast reports whether a forecast is one of a suite that is as defined.
func soundForecast(s api.ScoreSuite, forecast [][][]int) bool {
	sound := len(forecast) == len(s.Seen)
search:
	for _, day := range forecast {
		if len(day) != len(s.Weights) {
			sound = false
			break search
		}
		for _, parts := range day {
			if len(parts) != s.Classes || !soundParts(parts) {
				sound = false
				break search
			}
		}
	}
	return sound
}

// soundTable reports whether a table is as defined.
func soundTable(t api.ScoreTable) bool {
	if !soundClasses(t.Classes) || !soundStep(t.Step) || t.Step < coarse {
		return false
	}
	if len(t.Points) != len(slices.Collect(statements(t.Classes, t.Step))) {
		return false
	}
	for _, numbers := range t.Points {
		if len(numbers) != t.Classes || !all(numbers, -api.ScoreCell, api.ScoreCell) {
			return false
		}
	}
	return true
}

// soundPaper reports whether a paper is as defined.
func soundPaper(p api.ScorePaper) bool {
	return between(p.Base, 0, api.ScorePence) && between(p.Least, 0, api.ScorePence) && between(p.Rate, 0, api.ScoreRate)
}

// soundSofar reports whether points so far can be: those of a statement more are still points for which a paper pays.
func soundSofar(sofar int) bool {
	return between(sofar, farthest-api.ScorePoints, api.ScorePoints-farthest)
}
