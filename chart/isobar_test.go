package chart_test

import (
	"fmt"
	"slices"
	"testing"

	"isobar/api"
	"isobar/chart"
)

// line returns the isobar whose crossings are two points each: the low one, and the high one.
func line(points ...int) []api.ChartCross {
	var out []api.ChartCross
	for pair := range slices.Chunk(points, 2) {
		out = append(out, api.ChartCross{Low: pair[0], High: pair[1]})
	}
	return out
}

// lines returns some isobars.
func lines(list ...[]api.ChartCross) [][]api.ChartCross { return list }

// TestLinesExamples is for P3.4.
func TestLinesExamples(t *testing.T) {
	diagonal := func(inner, outer int) api.ChartField {
		f := field(4, slices.Repeat([]int{outer}, 16)...)
		f.Values[5], f.Values[10] = inner, inner
		return f
	}
	for i, x := range []struct {
		f     api.ChartField
		level int
		want  [][]api.ChartCross
	}{
		{drawnM(), 75900, lines(line(5, 1, 5, 4, 5, 9, 5, 6))},
		{drawnM(), 75930, lines(line(9, 8, 5, 4, 5, 1, 6, 2, 6, 7, 6, 10, 9, 10))},
		// a point whose value is the level is high
		{field(2, 7, 8), 8, lines(line(0, 1))},
		{field(2, 7, 8), 7, nil},
		{field(2, 7, 8), 9, nil},
		{field(1, 7), 7, nil},
		{field(1, 0), 1, nil},
		// in one row or one column, each crossing is an isobar, which has one end
		{field(6, 1, 2, 1, 1, 2, 2), 2, lines(line(0, 1), line(2, 1), line(3, 4))},
		{field(1, 2, 1, 2, 2, 1), 2, lines(line(1, 0), line(1, 2), line(4, 3))},
		// of a cell with four crossings, the high points are parted
		{field(2, 1, 0, 0, 1), 1, lines(line(1, 0, 2, 0), line(1, 3, 2, 3))},
		{field(2, 0, 1, 1, 0), 1, lines(line(0, 1, 3, 1), line(0, 2, 3, 2))},
		{field(2, 0, 0, 0, 1), 1, lines(line(1, 3, 2, 3))},
		{field(2, 0, 0, 1, 1), 1, lines(line(0, 2, 1, 3))},
		{field(2, 0, 1, 0, 1), 1, lines(line(0, 1, 2, 3))},
		{field(2, 1, 1, 1, 0), 1, lines(line(3, 1, 3, 2))},
		// lows across the corner of a cell are in one closed isobar, highs in two
		{diagonal(0, 1), 1, lines(line(5, 1, 5, 4, 5, 9, 10, 9, 10, 14, 10, 11, 10, 6, 5, 6))},
		{diagonal(1, 0), 1, lines(line(1, 5, 4, 5, 9, 5, 6, 5), line(6, 10, 9, 10, 14, 10, 11, 10))},
		// a closed one between two that end at the edge, around it
		{field(5, 0, 0, 0, 0, 0, 1, 1, 1, 1, 1, 1, 0, 1, 1, 1, 1, 1, 1, 1, 1, 0, 0, 0, 0, 0), 1, lines(
			line(0, 5, 1, 6, 2, 7, 3, 8, 4, 9), line(11, 6, 11, 10, 11, 16, 11, 12), line(20, 15, 21, 16, 22, 17, 23, 18, 24, 19))},
		// an isobar that begins where it ends in the same cell as another one
		{field(3, 0, 1, 0, 1, 1, 1, 0, 1, 0), 1, lines(line(0, 1, 0, 3), line(2, 1, 2, 5), line(6, 3, 6, 7), line(8, 5, 8, 7))},
		{field(1, 99998, 99999), 99999, lines(line(0, 1))},
	} {
		if l, e := chart.Lines(x.f, x.level); fmt.Sprint(l) != fmt.Sprint(x.want) || e != api.OK {
			t.Error(i, l, e)
		}
	}
}

// TestLinesErrors is for P3.4.
func TestLinesErrors(t *testing.T) {
	for i, f := range wrongFields() {
		if l, e := chart.Lines(f, 1); len(l) > 0 || e != api.ErrArg {
			t.Error(i, l, e)
		}
	}
	for _, level := range []int{0, -1, 100000} {
		if l, e := chart.Lines(drawnM(), level); len(l) > 0 || e != api.ErrArg {
			t.Error(level, l, e)
		}
	}
	for _, level := range []int{1, 99999} {
		if l, e := chart.Lines(drawnM(), level); len(l) > 0 || e != api.OK {
			t.Error(level, l, e)
		}
	}
}

// sides returns the crossings of the sides of a cell, clockwise; the zero value where a side has none.
func sides(f api.ChartField, level int, cell [4]int) [4]api.ChartCross {
	var out [4]api.ChartCross
	for i, a := range cell {
		b := cell[(i+1)%4]
		if f.Values[a] < level && f.Values[b] >= level {
			out[i] = api.ChartCross{Low: a, High: b}
		}
		if f.Values[b] < level && f.Values[a] >= level {
			out[i] = api.ChartCross{Low: b, High: a}
		}
	}
	return out
}

// joined reports in how many cells a crossing is joined, and whether it is joined to another one.
func joined(f api.ChartField, level int, a, b api.ChartCross) (int, bool) {
	cells, is := 0, false
	for _, cell := range cellsOf(f.Wide, len(f.Values)/f.Wide) {
		list := sides(f, level, cell)
		if !slices.Contains(list[:], a) {
			continue
		}
		cells++
		parted := !slices.Contains(list[:], api.ChartCross{})
		is = is || a != b && slices.Contains(list[:], b) && (!parted || a.High == b.High)
	}
	return cells, is
}

// less reports whether a crossing comes before another one.
func less(a, b api.ChartCross) bool { return a.Low < b.Low || a.Low == b.Low && a.High < b.High }

// isobarWrong returns what is wrong with an isobar, or nothing.
func isobarWrong(f api.ChartField, level int, list []api.ChartCross) string {
	open := false
	for i, c := range list {
		cells, _ := joined(f, level, c, c)
		open = open || cells < 2
		if i > 0 {
			if _, is := joined(f, level, list[i-1], c); !is {
				return "not joined to the next one"
			}
		}
	}
	beginning, end := list[0], list[len(list)-1]
	if open {
		a, _ := joined(f, level, beginning, beginning)
		b, _ := joined(f, level, end, end)
		switch {
		case a > 1 || b > 1:
			return "an end that is not at the edge"
		case less(end, beginning):
			return "the greater end first"
		case len(list) == 1 && a > 0:
			return "one end alone"
		}
		return ""
	}
	_, is := joined(f, level, end, beginning)
	switch {
	case len(list) < 4 || !is:
		return "not closed"
	case slices.ContainsFunc(list, func(c api.ChartCross) bool { return less(c, beginning) }):
		return "not the least crossing first"
	case less(end, list[1]):
		return "not the lesser crossing next"
	}
	return ""
}

// TestLinesTried is for P3.4: what is said of isobars leaves one list of them, and all of it is checked.
func TestLinesTried(t *testing.T) {
	d := dice(34)
	closed, parted := 0, 0
	for range 10000 {
		f := d.anyField()
		level := max(1, min(99999, f.Values[0]+d.from(-3, 3)))
		l, e := chart.Lines(f, level)
		if e != api.OK {
			t.Fatal(f, level, e)
		}
		left := map[api.ChartCross]bool{}
		for a, x := range f.Values {
			for b, y := range f.Values {
				if apart(f.Wide, a, b) == 1 && x < level && y >= level {
					left[api.ChartCross{Low: a, High: b}] = true
				}
			}
		}
		for i, list := range l {
			if len(list) == 0 || i > 0 && !less(l[i-1][0], list[0]) {
				t.Fatal(f, level, l, "not in order")
			}
			if wrong := isobarWrong(f, level, list); wrong != "" {
				t.Fatal(f, level, l, list, wrong)
			}
			if cells, _ := joined(f, level, list[0], list[0]); cells == 2 {
				closed++
			}
			for _, c := range list {
				if !left[c] {
					t.Fatal(f, level, l, c, "no crossing, or twice")
				}
				delete(left, c)
			}
		}
		if len(left) > 0 {
			t.Fatal(f, level, l, left, "left out")
		}
		for _, cell := range cellsOf(f.Wide, len(f.Values)/f.Wide) {
			if list := sides(f, level, cell); !slices.Contains(list[:], api.ChartCross{}) {
				parted++
			}
		}
	}
	if closed < 500 || parted < 500 {
		t.Error("the fields are not mixed enough:", closed, parted)
	}
}

// chord is two places on the sides of a cell, counted clockwise.
type chord [2]int

// chords returns for each two crossings of isobars that follow each other in a cell their places on its sides: of two levels, the crossing of the lesser one is nearer to the low point.
func chords(f api.ChartField, level int, greater bool, cell [4]int, l [][]api.ChartCross) []chord {
	list := sides(f, level, cell)
	place := func(c api.ChartCross) int {
		side := slices.Index(list[:], c)
		if side < 0 || c == (api.ChartCross{}) {
			return -1
		}
		if (c.Low == cell[side]) == greater {
			return 4*side + 2
		}
		return 4*side + 1
	}
	var out []chord
	for _, isobar := range l {
		cells, _ := joined(f, level, isobar[0], isobar[0])
		for i, c := range isobar {
			if i == 0 && cells < 2 {
				continue
			}
			before := isobar[(i+len(isobar)-1)%len(isobar)]
			if a, b := place(before), place(c); a >= 0 && b >= 0 {
				out = append(out, chord{min(a, b), max(a, b)})
			}
		}
	}
	return out
}

// cross reports whether two chords cross.
func cross(a, b chord) bool {
	first := a[0] < b[0] && b[0] < a[1]
	second := a[0] < b[1] && b[1] < a[1]
	return first != second
}

// TestNoIsobarsCross is for P3.5 and P0.3.
func TestNoIsobarsCross(t *testing.T) {
	d := dice(35)
	compared := 0
	for range 6000 {
		f := d.anyField()
		lesser := max(1, f.Values[0]-d.from(0, 4))
		greater := min(99999, lesser+d.from(0, 4))
		one, oneError := chart.Lines(f, lesser)
		other, otherError := chart.Lines(f, greater)
		if oneError != api.OK || otherError != api.OK {
			t.Fatal(f, lesser, greater, oneError, otherError)
		}
		for _, cell := range cellsOf(f.Wide, len(f.Values)/f.Wide) {
			a := chords(f, lesser, false, cell, one)
			b := chords(f, greater, true, cell, other)
			for i, x := range a {
				for _, y := range b {
					compared++
					if lesser < greater && cross(x, y) {
						t.Fatal(f, lesser, greater, cell, x, y)
					}
				}
				for _, y := range a[i+1:] {
					if cross(x, y) {
						t.Fatal(f, lesser, cell, x, y)
					}
				}
			}
		}
	}
	if compared < 5000 {
		t.Error("too few isobars were compared:", compared)
	}
}

// TestStationsPassed is for P0.3: an isobar of a drawn field passes each station on the side on which its span is, or at a level within it.
func TestStationsPassed(t *testing.T) {
	d := dice(36)
	passed := 0
	for range 2000 {
		m := d.anyMap()
		f, e := chart.Draw(m)
		if e != api.OK {
			continue
		}
		level := max(1, min(99999, f.Values[d.IntN(len(f.Values))]+d.from(-1, 1)))
		l, e := chart.Lines(f, level)
		if e != api.OK {
			t.Fatal(f, level, e)
		}
		for _, c := range slices.Concat(l...) {
			for _, s := range m.Stations {
				if s.Point == c.Low && s.Pressure.Low >= level || s.Point == c.High && s.Pressure.High < level {
					t.Fatal(m, f, level, c, s)
				}
				if s.Point == c.Low || s.Point == c.High {
					passed++
				}
			}
		}
	}
	if passed < 2000 {
		t.Error("too few stations were passed:", passed)
	}
}
