package low_test

import (
	"slices"
	"testing"

	"isobar/api"
	"isobar/low"
)

// wordFor returns the word for whether something is so in a truth that is known.
func wordFor(is bool) api.LowWord {
	if is {
		return surely
	}
	return never
}

// belies reports whether a word says the contrary of another one, which is surely or never.
func belies(word, is api.LowWord) bool { return word != may && word != is }

// TestInTruths is for P4.1 to P4.6 and P0.4: what is said of suites of all sizes holds in a truth of them.
func TestInTruths(t *testing.T) {
	d := dice(46)
	sure := 0
	for range 250 {
		s, truth := d.history(d.large())
		k, list, e := askAbout(s)
		if e != api.OK {
			t.Fatal(s, truth, e)
		}
		for i, m := range s.Maps {
			for j := range m.Spots {
				w := k.spots[i][j]
				if !in(truth.X[i][j], w.X) || !in(truth.Y[i][j], w.Y) || !in(truth.Depth[i][j], w.Depth) {
					t.Fatal(s, truth, i, j, w)
				}
				if path := pathOf(truth.Same, i, j); !slices.ContainsFunc(k.paths[fact{at: i, low: j}], func(p []int) bool { return slices.Equal(p, path) }) {
					t.Fatal(s, truth, i, j, k.paths)
				}
			}
		}
		for i, facts := range allFacts(s) {
			for j, row := range facts {
				for n, f := range row {
					is := f.low == -1 && ended(truth.Same, f.at-1, f.before) || f.low != -1 && truth.Same[f.at][f.low] == f.before
					if belies(list[i][j][n], wordFor(is)) {
						t.Fatal(s, truth, f, list[i][j][n])
					}
					if list[i][j][n] == surely {
						sure++
					}
				}
			}
		}
		if k.fewest > len(truth.Same[0])+births(truth.Same) || k.fewest != len(k.links[0])+births(k.links) {
			t.Fatal(s, truth, k)
		}
		if speed, e := low.Speed(s); e != api.OK || speed > s.Speed {
			t.Fatal(s, truth, speed, e)
		}
		if at, e := low.Clash(s); at != 0 || e != api.ErrNone {
			t.Fatal(s, truth, at, e)
		}
	}
	if sure < 200 {
		t.Error("too few are sure:", sure)
	}
}

// TestAheadInTruths is for P4.5: however a low goes on after the last map, it comes no further than is told, and just so far if all goes one way.
func TestAheadInTruths(t *testing.T) {
	d := dice(47)
	asked := 0
	for range 600 {
		s, truth := d.history(d.large())
		last := len(s.Maps) - 1
		for j := range s.Maps[last].Spots {
			asked++
			hours := d.among(0, 1, 2, 24, 200)
			ahead, e := low.Ahead(s, j, hours)
			x, y, depth := truth.X[last][j], truth.Y[last][j], truth.Depth[last][j]
			for range hours {
				x, y, depth = d.moved(x, s.Speed, 100), d.moved(y, s.Speed, 100), d.moved(depth, s.Deepen, 99999)
			}
			if e != api.OK || !in(x, ahead.X) || !in(y, ahead.Y) || !in(depth, ahead.Depth) {
				t.Fatal(s, truth, j, hours, ahead, e)
			}
			where, _ := low.Where(s, last, j)
			for range hours {
				where.X = span(max(0, where.X.Low-s.Speed), min(100, where.X.High+s.Speed))
				where.Y = span(max(0, where.Y.Low-s.Speed), min(100, where.Y.High+s.Speed))
				where.Depth = span(max(0, where.Depth.Low-s.Deepen), min(99999, where.Depth.High+s.Deepen))
			}
			if ahead != where {
				t.Fatal(s, j, hours, ahead, where)
			}
		}
	}
	if asked < 500 {
		t.Error("too few lows:", asked)
	}
}

// wider returns a suite of which less is known.
func (d dicer) wider(s api.LowSuite) api.LowSuite {
	s = copied(s)
	s.Speed, s.Deepen = min(50, s.Speed+d.among(0, 0, 1, 5)), min(1000, s.Deepen+d.among(0, 0, 1, 50))
	s.Born, s.Gone = min(12, s.Born+d.among(0, 0, 1)), min(12, s.Gone+d.among(0, 0, 1))
	for _, m := range s.Maps {
		for i := range m.Spots {
			k := &m.Spots[i]
			for _, limits := range []*api.Span{&k.X, &k.Y} {
				*limits = span(max(0, limits.Low-d.among(0, 0, 3)), min(100, limits.High+d.among(0, 0, 3)))
			}
			k.Depth = span(max(0, k.Depth.Low-d.among(0, 0, 50)), min(99999, k.Depth.High+d.among(0, 0, 50)))
		}
	}
	return s
}

// within reports whether one span lies in another one.
func within(inner, outer api.Span) bool {
	return inner.Low <= inner.High && in(inner.Low, outer) && in(inner.High, outer)
}

// TestNarrower is for P4.7: what is sure remains so if more is known.
func TestNarrower(t *testing.T) {
	d := dice(48)
	surer, torn := 0, 0
	for range 500 {
		c := d.large()
		c.spareBorn, c.spareGone, c.maps = 1, 1, d.from(2, 4)
		s := d.suite(c)
		outer := d.wider(s)
		k, list, e := askAbout(s)
		outerK, outerList, outerE := askAbout(outer)
		at, clash := low.Clash(s)
		outerAt, outerClash := low.Clash(outer)
		speed, slow := low.Speed(s)
		outerSpeed, outerSlow := low.Speed(outer)
		if outerClash == api.OK && (clash != api.OK || at > outerAt) || outerSlow == api.ErrNone && slow != api.ErrNone || slow == api.OK && speed < outerSpeed {
			t.Fatal(s, outer, at, clash, outerAt, outerClash, speed, slow, outerSpeed, outerSlow)
		}
		if e != api.OK {
			torn++
			continue
		}
		if outerE != api.OK || k.fewest < outerK.fewest {
			t.Fatal(s, outer, k, outerK, outerE)
		}
		for i, rows := range list {
			for j, row := range rows {
				for n, word := range row {
					if outerList[i][j][n] != may && outerList[i][j][n] != word {
						t.Fatal(s, outer, list, outerList)
					}
					if outerList[i][j][n] != word {
						surer++
					}
				}
			}
		}
		for i, row := range k.spots {
			for j, w := range row {
				o := outerK.spots[i][j]
				if !within(w.X, o.X) || !within(w.Y, o.Y) || !within(w.Depth, o.Depth) {
					t.Fatal(s, outer, i, j, w, o)
				}
			}
		}
		for low, paths := range k.paths {
			for _, path := range paths {
				if !slices.ContainsFunc(outerK.paths[low], func(p []int) bool { return slices.Equal(p, path) }) {
					t.Fatal(s, outer, low, paths, outerK.paths[low])
				}
			}
		}
	}
	if surer < 100 || torn < 20 || torn > 900 {
		t.Error("the suites are not mixed enough:", surer, torn)
	}
}

// backwards returns a suite from the last map to the first one.
func backwards(s api.LowSuite) api.LowSuite {
	s = copied(s)
	slices.Reverse(s.Maps)
	for i := range s.Maps {
		s.Maps[i].At = 200 - s.Maps[i].At
	}
	s.Born, s.Gone = s.Gone, s.Born
	return s
}

// TestBackwards is for P4.7.
func TestBackwards(t *testing.T) {
	d := dice(49)
	possible := 0
	for range 500 {
		c := d.large()
		c.maps = d.from(2, 4)
		s := d.suite(c)
		back := backwards(s)
		k, list, e := askAbout(s)
		backK, backList, backE := askAbout(back)
		speed, slow := low.Speed(s)
		if again, e := low.Speed(back); again != speed || e != slow {
			t.Fatal(s, back, speed, slow, again, e)
		}
		_, clash := low.Clash(s)
		if _, e := low.Clash(back); e != clash {
			t.Fatal(s, back, clash, e)
		}
		slices.Reverse(backK.spots)
		if e != backE || k.fewest != backK.fewest || !equal(k.spots, backK.spots) {
			t.Fatal(s, back, k, backK, e, backE)
		}
		if e != api.OK {
			continue
		}
		possible++
		// the words of Same on each map but the first one, then births, then ends
		links := len(s.Maps) - 1
		slices.Reverse(backList[links])
		slices.Reverse(backList[links+1])
		if !equal(list[links], backList[links+1]) || !equal(list[links+1], backList[links]) {
			t.Fatal(s, back, list, backList)
		}
		for i := range links {
			for low, row := range list[i] {
				for before, word := range row {
					if backList[links-1-i][before][low] != word {
						t.Fatal(s, back, i, low, before, list, backList)
					}
				}
			}
		}
	}
	if possible < 150 {
		t.Error("too few suites are possible:", possible)
	}
}
