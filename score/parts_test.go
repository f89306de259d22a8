package score_test

import (
	"math"
	"slices"
	"testing"

	"isobar/api"
	"isobar/score"
)

// TestGain is for P6.1: the chapter's examples, the edges, and all parts.
func TestGain(t *testing.T) {
	for _, x := range []struct {
		parts       []int
		class, want int
	}{
		{[]int{70, 20, 10}, 0, 8600}, {[]int{70, 20, 10}, 1, -1400}, {[]int{70, 20, 10}, 2, -3400},
		{[]int{100, 0}, 0, 10000}, {[]int{100, 0}, 1, -10000}, {[]int{0, 100}, 1, 10000}, {[]int{0, 0, 100}, 0, -10000},
		{[]int{50, 50}, 0, 5000}, {[]int{60, 40}, 0, 6800}, {[]int{60, 40}, 1, 2800},
		{[]int{34, 33, 33}, 0, 3466}, {[]int{34, 33, 33}, 2, 3266}, {[]int{99, 1}, 1, -9602},
	} {
		if got, e := score.Gain(x.parts, x.class); got != x.want || e != api.OK {
			t.Error(x, got, e)
		}
	}
	for classes := 2; classes <= 3; classes++ {
		for _, parts := range allParts(classes, 1) {
			for class := range classes {
				if got, e := score.Gain(parts, class); got != pointsOf(parts, class) || e != api.OK {
					t.Fatal(parts, class, got, e)
				}
			}
		}
	}
}

// TestGainErrors is for P6.1.
func TestGainErrors(t *testing.T) {
	for _, parts := range wrongParts() {
		if got, e := score.Gain(parts, 0); got != 0 || e != api.ErrArg {
			t.Error(parts, got, e)
		}
	}
	for _, parts := range [][]int{{60, 40}, {60, 30, 10}} {
		for _, class := range []int{-1, len(parts), len(parts) + 1, math.MinInt, math.MaxInt} {
			if got, e := score.Gain(parts, class); got != 0 || e != api.ErrArg {
				t.Error(parts, class, got, e)
			}
		}
	}
}

// TestHope is for P6.1: the chapter's examples, and the edges.
func TestHope(t *testing.T) {
	for _, x := range []struct {
		belief, parts []int
		hope, loses   int
	}{
		{[]int{60, 30, 10}, []int{70, 20, 10}, 440000, 20000}, {[]int{60, 30, 10}, []int{60, 30, 10}, 460000, 0},
		{[]int{70, 20, 10}, []int{60, 30, 10}, 520000, 20000},
		{[]int{100, 0}, []int{0, 100}, -1000000, 2000000}, {[]int{100, 0}, []int{100, 0}, 1000000, 0},
		{[]int{50, 50}, []int{60, 40}, 480000, 20000}, {[]int{50, 50}, []int{51, 49}, 499800, 200},
		{[]int{0, 0, 100}, []int{0, 100, 0}, -1000000, 2000000}, {[]int{33, 33, 34}, []int{34, 33, 33}, 333200, 200},
	} {
		if hope, loses, e := score.Hope(x.belief, x.parts); hope != x.hope || loses != x.loses || e != api.OK {
			t.Error(x, hope, loses, e)
		}
	}
}

// TestHopeOfMany is for P6.1 and P0.6: no parts hope for more, by a belief, than the belief itself; what they lose is shown by the squares.
func TestHopeOfMany(t *testing.T) {
	for _, all := range [][][]int{allParts(2, 1), allParts(3, 5), allParts(3, 4)} {
		for _, belief := range all {
			own, none, e := score.Hope(belief, belief)
			if none != 0 || e != api.OK {
				t.Fatal(belief, own, none, e)
			}
			for _, parts := range all {
				want := 0
				for class, part := range belief {
					want += part * pointsOf(parts, class)
				}
				hope, loses, e := score.Hope(belief, parts)
				if hope != want || loses != lossOf(belief, parts) || e != api.OK {
					t.Fatal(belief, parts, hope, loses, e)
				}
				if hope+loses != own || hope > own || hope == own && !slices.Equal(belief, parts) {
					t.Fatal(belief, parts, hope, loses, own)
				}
			}
		}
	}
	d := dice(1)
	for range 20000 {
		classes := d.from(2, 3)
		belief, parts := d.parts(classes), d.parts(classes)
		hope, loses, e := score.Hope(belief, parts)
		if loses != lossOf(belief, parts) || e != api.OK {
			t.Fatal(belief, parts, hope, loses, e)
		}
	}
}

// TestHopeErrors is for P6.1.
func TestHopeErrors(t *testing.T) {
	wrong := [][2][]int{
		{{60, 40}, {60, 30, 10}}, {{60, 30, 10}, {60, 40}}, {{100, 0}, {100, 0, 0}}, {{0, 100, 0}, {0, 100}},
	}
	for _, parts := range wrongParts() {
		wrong = append(wrong, [2][]int{parts, {60, 40}}, [2][]int{{60, 40}, parts}, [2][]int{parts, {60, 30, 10}}, [2][]int{{60, 30, 10}, parts}, [2][]int{parts, parts})
	}
	for _, x := range wrong {
		if hope, loses, e := score.Hope(x[0], x[1]); hope != 0 || loses != 0 || e != api.ErrArg {
			t.Error(x, hope, loses, e)
		}
	}
}

// TestBest is for P6.2: the chapter's examples, the edges, and the first one of several.
func TestBest(t *testing.T) {
	for _, x := range []struct {
		belief []int
		step   int
		want   []int
	}{
		{[]int{60, 30, 10}, 25, []int{50, 25, 25}}, {[]int{60, 30, 10}, 50, []int{50, 50, 0}},
		{[]int{60, 30, 10}, 100, []int{100, 0, 0}}, {[]int{60, 30, 10}, 10, []int{60, 30, 10}}, {[]int{60, 30, 10}, 20, []int{60, 20, 20}},
		{[]int{60, 40}, 50, []int{50, 50}}, {[]int{76, 24}, 50, []int{100, 0}}, {[]int{74, 26}, 50, []int{50, 50}},
		{[]int{12, 88}, 5, []int{10, 90}}, {[]int{13, 87}, 5, []int{15, 85}}, {[]int{1, 99}, 4, []int{0, 100}}, {[]int{3, 97}, 4, []int{4, 96}},
		// of several, the first one
		{[]int{50, 50}, 100, []int{0, 100}}, {[]int{75, 25}, 50, []int{50, 50}}, {[]int{51, 49}, 2, []int{50, 50}},
		{[]int{25, 25, 50}, 50, []int{0, 50, 50}}, {[]int{50, 25, 25}, 50, []int{50, 0, 50}}, {[]int{0, 50, 50}, 100, []int{0, 0, 100}}, {[]int{50, 50, 0}, 100, []int{0, 100, 0}},
		{[]int{33, 33, 34}, 100, []int{0, 0, 100}}, {[]int{33, 34, 33}, 100, []int{0, 100, 0}}, {[]int{34, 33, 33}, 100, []int{100, 0, 0}},
		{[]int{33, 34, 33}, 1, []int{33, 34, 33}}, {[]int{0, 1, 99}, 1, []int{0, 1, 99}}, {[]int{100, 0, 0}, 1, []int{100, 0, 0}},
	} {
		if got, e := score.Best(x.belief, x.step); !slices.Equal(got, x.want) || e != api.OK {
			t.Error(x, got, e)
		}
	}
}

// TestBestOfMany is for P6.2: no statement in the step loses less, and none that comes before loses as little.
func TestBestOfMany(t *testing.T) {
	d := dice(2)
	for _, step := range steps() {
		for classes := 2; classes <= 3; classes++ {
			all := allParts(classes, step)
			for range 200 {
				belief := d.parts(classes)
				got, e := score.Best(belief, step)
				at := slices.IndexFunc(all, func(parts []int) bool { return slices.Equal(parts, got) })
				if e != api.OK || at < 0 {
					t.Fatal(belief, step, got, e)
				}
				_, loses, _ := score.Hope(belief, got)
				for i, parts := range all {
					if other := lossOf(belief, parts); other < loses || i < at && other == loses {
						t.Fatal(belief, step, got, parts)
					}
				}
				if exact := slices.ContainsFunc(all, func(parts []int) bool { return slices.Equal(parts, belief) }); exact && !slices.Equal(got, belief) {
					t.Fatal(belief, step, got)
				}
			}
		}
	}
}

// wrongSteps returns numbers that are no steps.
func wrongSteps() []int {
	return []int{0, -1, 3, 6, 7, 8, 9, 12, 15, 30, 33, 40, 51, 75, 99, 101, 200, -5, -100, math.MinInt, math.MaxInt}
}

// TestBestErrors is for P6.2.
func TestBestErrors(t *testing.T) {
	for _, parts := range wrongParts() {
		for _, step := range []int{1, 50} {
			if got, e := score.Best(parts, step); len(got) != 0 || e != api.ErrArg {
				t.Error(parts, step, got, e)
			}
		}
	}
	for _, step := range wrongSteps() {
		for _, belief := range [][]int{{60, 40}, {60, 30, 10}} {
			if got, e := score.Best(belief, step); len(got) != 0 || e != api.ErrArg {
				t.Error(belief, step, got, e)
			}
		}
	}
	for _, step := range steps() {
		if _, e := score.Best([]int{60, 40}, step); e != api.OK {
			t.Error(step, e)
		}
	}
}
