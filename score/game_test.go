package score_test

import (
	"math"
	"slices"
	"testing"

	"isobar/api"
	"isobar/score"
)

// tableSteps returns the steps that a table can have.
func tableSteps() []int { return []int{5, 10, 20, 25, 50, 100} }

// TestGame is for P6.6: the chapter's examples, the edges, and the first one of several.
func TestGame(t *testing.T) {
	for i, x := range []struct {
		classes, step int
		points        [][]int
		belief, most  []int
		more          int
		e             api.Errno
	}{
		{2, 50, [][]int{{0, 100}, {40, 40}, {100, 0}}, []int{50, 50}, []int{0, 100}, 1000, api.OK},
		{2, 50, [][]int{{0, 100}, {80, 80}, {100, 0}}, nil, nil, 0, api.ErrNone},
		// as much is no more
		{2, 50, [][]int{{0, 100}, {50, 50}, {100, 0}}, nil, nil, 0, api.ErrNone},
		{2, 50, [][]int{{0, 100}, {49, 50}, {100, 0}}, []int{50, 50}, []int{0, 100}, 50, api.OK},
		{2, 50, [][]int{{0, 99}, {49, 50}, {100, 0}}, []int{50, 50}, []int{100, 0}, 50, api.OK},
		{2, 50, [][]int{{0, 0}, {0, 0}, {0, 0}}, nil, nil, 0, api.ErrNone},
		{2, 50, [][]int{{7, -7}, {7, -7}, {7, -7}}, nil, nil, 0, api.ErrNone},
		// the first belief of several, and the last one alone
		{2, 50, [][]int{{0, 0}, {1, 1}, {0, 0}}, []int{0, 100}, []int{50, 50}, 100, api.OK},
		{2, 50, [][]int{{0, 2}, {1, 1}, {0, 0}}, []int{100, 0}, []int{50, 50}, 100, api.OK},
		{2, 50, [][]int{{0, 0}, {0, 5}, {0, 5}}, []int{0, 100}, []int{50, 50}, 500, api.OK},
		{2, 100, [][]int{{0, 1}, {0, 0}}, nil, nil, 0, api.ErrNone},
		{2, 100, [][]int{{0, 0}, {0, 1}}, []int{0, 100}, []int{100, 0}, 100, api.OK},
		{2, 100, [][]int{{1, 0}, {0, 0}}, []int{100, 0}, []int{0, 100}, 100, api.OK},
		{2, 100, [][]int{{0, -100000}, {0, 100000}}, []int{0, 100}, []int{100, 0}, 20000000, api.OK},
		{2, 100, [][]int{{100000, 100000}, {-100000, -100000}}, []int{100, 0}, []int{0, 100}, 20000000, api.OK},
		// three classes: 0 0 100, 0 100 0 and 100 0 0; and 0 0 100, 0 50 50, 0 100 0, 50 0 50, 50 50 0 and 100 0 0
		{3, 100, [][]int{{0, 0, 1}, {0, 1, 0}, {1, 0, 0}}, nil, nil, 0, api.ErrNone},
		{3, 100, [][]int{{0, 0, 1}, {0, 1, 0}, {1, 2, 0}}, []int{0, 100, 0}, []int{100, 0, 0}, 100, api.OK},
		{3, 100, [][]int{{1, 0, 0}, {0, 1, 0}, {0, 0, 1}}, []int{0, 0, 100}, []int{100, 0, 0}, 100, api.OK},
		{3, 50, [][]int{{0, 0, 9}, {0, 9, 9}, {0, 9, 0}, {9, 0, 9}, {9, 9, 0}, {9, 0, 0}}, nil, nil, 0, api.ErrNone},
		{3, 50, [][]int{{0, 0, 9}, {0, 9, 9}, {0, 9, 0}, {9, 0, 9}, {9, 9, 0}, {9, 1, 0}}, nil, nil, 0, api.ErrNone},
		{3, 50, [][]int{{0, 0, 9}, {0, 9, 9}, {0, 9, 0}, {9, 0, 8}, {9, 9, 0}, {9, 0, 9}}, []int{50, 0, 50}, []int{100, 0, 0}, 50, api.OK},
	} {
		g := api.ScoreTable{Classes: x.classes, Step: x.step, Points: x.points}
		belief, most, more, e := score.Game(g)
		if !slices.Equal(belief, x.belief) || !slices.Equal(most, x.most) || more != x.more || e != x.e {
			t.Error(i, belief, most, more, e)
		}
	}
}

// wrongTables returns tables that are not as defined.
func wrongTables() []api.ScoreTable {
	var out []api.ScoreTable
	for _, change := range []func(*api.ScoreTable){
		func(g *api.ScoreTable) { g.Classes = 1 },
		func(g *api.ScoreTable) { g.Classes = 3 },
		func(g *api.ScoreTable) { g.Classes = 4 },
		func(g *api.ScoreTable) { g.Classes = 0 },
		func(g *api.ScoreTable) { g.Classes = math.MaxInt },
		func(g *api.ScoreTable) { g.Classes = math.MinInt },
		func(g *api.ScoreTable) { g.Classes, g.Points = 1, [][]int{{5}} },
		func(g *api.ScoreTable) { g.Classes, g.Points = 1, [][]int{{5}, {5}, {5}} },
		func(g *api.ScoreTable) { g.Classes, g.Points = 4, slices.Repeat([][]int{{0, 0, 0, 0}}, 10) },
		func(g *api.ScoreTable) { g.Classes, g.Points = 3, slices.Repeat([][]int{{0, 0, 0}}, 3) },
		func(g *api.ScoreTable) { g.Classes, g.Points = 3, slices.Repeat([][]int{{0, 0, 0}}, 5) },
		func(g *api.ScoreTable) { g.Classes, g.Points = 3, slices.Repeat([][]int{{0, 0, 0}}, 7) },
		func(g *api.ScoreTable) { g.Points = nil },
		func(g *api.ScoreTable) { g.Points = g.Points[:2] },
		func(g *api.ScoreTable) { g.Points = append(g.Points, []int{0, 0}) },
		func(g *api.ScoreTable) { g.Points = slices.Repeat(g.Points, 200) },
		func(g *api.ScoreTable) { g.Points[0] = nil },
		func(g *api.ScoreTable) { g.Points[1] = []int{40} },
		func(g *api.ScoreTable) { g.Points[2] = []int{100, 0, 0} },
		func(g *api.ScoreTable) { g.Points[2][1] = 100001 },
		func(g *api.ScoreTable) { g.Points[0][0] = -100001 },
		func(g *api.ScoreTable) { g.Points[1][0] = math.MaxInt },
		func(g *api.ScoreTable) { g.Points[1][1] = math.MinInt },
	} {
		g := tableG()
		change(&g)
		out = append(out, g)
	}
	for _, step := range append(wrongSteps(), 1, 2, 4) {
		g := tableG()
		g.Step = step
		if step > 0 && step <= 100 {
			g.Points = slices.Repeat([][]int{{0, 0}}, 100/step+1)
		}
		out = append(out, g)
	}
	for _, step := range []int{1, 2, 4} {
		out = append(out, ownTable(2, step), ownTable(3, step))
	}
	return out
}

// TestGameErrors is for P6.6.
func TestGameErrors(t *testing.T) {
	for i, g := range wrongTables() {
		if belief, most, more, e := score.Game(g); len(belief) != 0 || len(most) != 0 || more != 0 || e != api.ErrArg {
			t.Error(i, belief, most, more, e)
		}
	}
}

// TestOwnPoints is for P6.6 and P0.6: a table that holds the points of layer 6 cannot be gamed, nor can one to which the same is added for each statement, class by class, or that holds them several times; and where one number more is wrong, it is shown where.
func TestOwnPoints(t *testing.T) {
	d := dice(40)
	found := 0
	for _, step := range tableSteps() {
		for classes := 2; classes <= 3; classes++ {
			for n := range 12 {
				g := ownTable(classes, step)
				times, added := 1, []int{0, 0, 0}
				if n > 0 {
					times, added = d.from(0, 4), []int{d.from(-50000, 50000), d.among(-50000, 0, 50000), d.from(-50000, 50000)}
				}
				for _, row := range g.Points {
					for class := range row {
						row[class] = row[class]*times + added[class]
					}
				}
				if belief, most, more, e := score.Game(g); len(belief) != 0 || len(most) != 0 || more != 0 || e != api.ErrNone {
					t.Fatal(g, belief, most, more, e)
				}
				g.Points[d.IntN(len(g.Points))][d.IntN(classes)] += d.among(-10000, -3000, -10, -1, 1, 10, 3000, 10000)
				found += gamedAs(t, g)
			}
		}
	}
	if found < 50 {
		t.Error("too few can be gamed:", found)
	}
}

// gamedAs compares what is said of a table with what it is, and returns 1 if it can be gamed.
func gamedAs(t *testing.T, g api.ScoreTable) int {
	wantBelief, wantMost, wantMore := gameOf(g)
	belief, most, more, e := score.Game(g)
	if !slices.Equal(belief, wantBelief) || !slices.Equal(most, wantMost) || more != wantMore {
		t.Fatal(g, belief, most, more, e, wantBelief, wantMost, wantMore)
	}
	if (e == api.OK) != (more > 0) || (e == api.ErrNone) != (more == 0) {
		t.Fatal(g, belief, most, more, e)
	}
	if e == api.OK {
		return 1
	}
	return 0
}

// TestGameOfMany is for P6.6 and P0.6: random tables are gamed as the chapter's definition says.
func TestGameOfMany(t *testing.T) {
	d := dice(41)
	counts := map[int]int{}
	for range 3000 {
		g := ownTable(d.from(2, 3), d.among(tableSteps()[1:]...))
		wide := d.among(0, 1, 3, 100, 100000)
		for _, row := range g.Points {
			for class := range row {
				if d.IntN(2) == 0 {
					row[class] = d.from(-wide, wide)
				}
			}
		}
		if d.IntN(3) == 0 {
			g = ownTable(g.Classes, g.Step)
			for range d.from(1, 4) {
				g.Points[d.IntN(len(g.Points))][d.IntN(g.Classes)] -= d.from(-2000, 4000)
			}
		}
		counts[gamedAs(t, g)]++
	}
	if counts[0] < 100 || counts[1] < 1000 {
		t.Error("too few of a kind:", counts)
	}
}
