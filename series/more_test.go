package series_test

import (
	"slices"
	"testing"

	"isobar/api"
	"isobar/series"
)

// surer reports whether a word is the same as another one, or that one leaves it open.
func surer(a, b api.SeriesWord) bool { return a == b || b == may }

// more returns a suite with a reading more, a comparison more, or a lesser change, which a truth allows or not.
func (d dicer) more(s api.SeriesSuite, in api.SeriesTruth) api.SeriesSuite {
	s = copied(s)
	switch d.IntN(3) {
	case 0:
		var open []int
		for i, y := range s.Years {
			if !y.Read && has(span(-1000, 1000), in.Values[i]-in.Shifts[y.Shelter]) {
				open = append(open, i)
			}
		}
		if len(open) > 0 {
			i := open[d.IntN(len(open))]
			s.Years[i] = api.SeriesYear{Shelter: s.Years[i].Shelter, Read: true, Reading: d.around(in.Values[i]-in.Shifts[s.Years[i].Shelter], 20, 1000)}
			if d.IntN(3) == 0 {
				s.Years[i].Reading = pushed(s.Years[i].Reading, d.from(-60, 60), 1000)
			}
		}
	case 1:
		a, b := d.IntN(s.Shelters), d.IntN(s.Shelters)
		if a != b && len(s.Checks) < 6 {
			differ := d.around(in.Shifts[a]-in.Shifts[b], 20, 400)
			if d.IntN(3) == 0 {
				differ = pushed(differ, d.from(-60, 60), 400)
			}
			s.Checks = slices.Insert(s.Checks, d.IntN(len(s.Checks)+1), api.SeriesCheck{A: a, B: b, Differ: differ})
		}
	default:
		s.Change = d.among(max(0, s.Change-1), d.from(0, s.Change))
	}
	return s
}

// bounds returns all bounds that are told of a suite that is possible.
func bounds(t *testing.T, s api.SeriesSuite) []api.Span {
	t.Helper()
	shifts, e1 := series.Shift(s)
	values, e2 := series.Join(s)
	if e1 != api.OK || e2 != api.OK {
		t.Fatal(s, e1, e2)
	}
	out := slices.Concat(shifts, values)
	for from := range s.Years {
		for to := from; to < len(s.Years); to++ {
			n, e := series.Normal(s, from, to)
			if e != api.OK {
				t.Fatal(s, from, to, e)
			}
			out = append(out, n)
		}
	}
	for level := -1000; level <= 1000; level += 50 {
		n, e := series.Frost(s, level)
		if e != api.OK {
			t.Fatal(s, level, e)
		}
		out = append(out, n)
	}
	return out
}

// words returns all words that are told of a suite that is possible.
func words(t *testing.T, s api.SeriesSuite) []api.SeriesWord {
	t.Helper()
	out, e := series.Warmest(s)
	if e != api.OK {
		t.Fatal(s, e)
	}
	for a := range s.Years {
		for b := range s.Years {
			w, e := series.Warmer(s, a, b)
			if e != api.OK {
				t.Fatal(s, a, b, e)
			}
			out = append(out, w)
		}
	}
	return out
}

// TestMore is for P8.7: a reading more, a comparison more, and a lesser change never make bounds wider, nor unsure what is sure; nor is a series possible that was not.
func TestMore(t *testing.T) {
	d := dice(19)
	narrower, told, not := 0, 0, 0
	for range 1500 {
		s, in := d.planted(4, 10, 5, d.among(500, 50, 10), d.among(1, 10, 100))
		n := d.more(s, in)
		if _, e := series.Join(n); e == api.ErrRule {
			not++
			continue
		}
		was, is := bounds(t, s), bounds(t, n)
		wasSure, isSure := words(t, s), words(t, n)
		if !allInside(is, was) || !slices.EqualFunc(isSure, wasSure, surer) {
			t.Fatal(s, n, was, is, wasSure, isSure)
		}
		if !slices.Equal(is, was) {
			narrower++
		}
		if !slices.Equal(isSure, wasSure) {
			told++
		}
	}
	if narrower < 300 || told < 150 || not < 50 {
		t.Error("too few of a kind:", narrower, told, not)
	}
}

// TestMoreMoves is for P8.7: with more known, a move has no wider bounds, and no move explains what none did.
func TestMoreMoves(t *testing.T) {
	d := dice(20)
	narrower, not := 0, 0
	for range 3000 {
		s, in := d.planted(4, 10, 5, d.among(500, 50, 10), d.among(1, 10, 100))
		n := d.more(s, in)
		for year, y := range s.Years {
			if !y.Read {
				continue
			}
			was, e1 := series.Moved(s, year)
			is, e2 := series.Moved(n, year)
			if e1 != api.OK || e2 == api.OK && !inside(is, was) {
				t.Fatal(s, n, year, was, is, e1, e2)
			}
			if e2 != api.OK {
				not++
			} else if is != was {
				narrower++
			}
		}
	}
	if narrower < 500 || not < 100 {
		t.Error("too few of a kind:", narrower, not)
	}
}

// TestNever is for P8.7: what is not possible is not with more known either, and jumps come no later.
func TestNever(t *testing.T) {
	d := dice(21)
	jumps, clashes := 0, 0
	for range 6000 {
		s, in := d.planted(4, 10, 5, d.among(500, 50, 10), d.among(1, 10))
		n := d.more(s, in)
		n = d.more(n, in)
		m := d.more(n, in)
		was, e1 := series.Jump(n)
		is, e2 := series.Jump(m)
		if e1 == api.ErrRule && e2 != api.ErrRule || e1 == api.OK && e2 == api.ErrNone || e1 == api.OK && e2 == api.OK && is > was {
			t.Fatal(n, m, was, is, e1, e2)
		}
		if e1 == api.OK {
			jumps++
		}
		_, e1 = series.Clash(n)
		_, e2 = series.Clash(m)
		if e1 == api.OK {
			clashes++
			if e2 != api.OK {
				t.Fatal(n, m, e1, e2)
			}
		}
	}
	if jumps < 300 || clashes < 50 {
		t.Error("too few of a kind:", jumps, clashes)
	}
}

// mirror returns a suite with all signs changed.
func mirror(s api.SeriesSuite) api.SeriesSuite {
	s = copied(s)
	for i, y := range s.Years {
		s.Years[i].Reading = turned(y.Reading)
	}
	for i, c := range s.Checks {
		s.Checks[i].Differ = turned(c.Differ)
	}
	return s
}

// turnedAll returns some spans with the signs of their numbers changed.
func turnedAll(spans []api.Span) []api.Span {
	var out []api.Span
	for _, s := range spans {
		out = append(out, turned(s))
	}
	return out
}

// TestMirror is for P8.7: with all signs changed, all bounds are those with the other sign; jumps and comparisons that contradict remain, and years that are warmer are cooler.
func TestMirror(t *testing.T) {
	d := dice(22)
	possible := 0
	for range 4000 {
		s := d.suite(d.among(1, 10, 100))
		m := mirror(s)
		a, e1 := series.Clash(s)
		b, e2 := series.Clash(m)
		if a != b || e1 != e2 {
			t.Fatal(s, a, b, e1, e2)
		}
		a, e1 = series.Jump(s)
		b, e2 = series.Jump(m)
		if a != b || e1 != e2 {
			t.Fatal(s, a, b, e1, e2)
		}
		year := d.IntN(len(s.Years))
		move, e1 := series.Moved(s, year)
		other, e2 := series.Moved(m, year)
		if move != turned(other) || e1 != e2 {
			t.Fatal(s, year, move, other, e1, e2)
		}
		shifts, e1 := series.Shift(s)
		others, e2 := series.Shift(m)
		if !slices.Equal(shifts, turnedAll(others)) || e1 != e2 {
			t.Fatal(s, shifts, others, e1, e2)
		}
		values, e1 := series.Join(s)
		others, e2 = series.Join(m)
		if !slices.Equal(values, turnedAll(others)) || e1 != e2 {
			t.Fatal(s, values, others, e1, e2)
		}
		if e1 == api.OK {
			possible++
			mirrored(t, d, s, m)
		}
	}
	if possible < 2000 {
		t.Error("too few are possible:", possible)
	}
}

// mirrored reports where normals, numbers of years and words of a suite are not those of the suite with all signs changed.
func mirrored(t *testing.T, d dicer, s, m api.SeriesSuite) {
	t.Helper()
	from := d.IntN(len(s.Years))
	to := d.from(from, len(s.Years)-1)
	a, e1 := series.Normal(s, from, to)
	b, e2 := series.Normal(m, from, to)
	// both are rounded down, so that they add up to 1 less where something was cut off
	low, high := a.Low+b.High, a.High+b.Low
	if e1 != api.OK || e2 != api.OK || low > 0 || high > 0 || low < -1 || high < -1 || from == to && (low < 0 || high < 0) {
		t.Fatal(s, from, to, a, b, e1, e2)
	}
	// what is at most a level is not, with the other sign, at most 1 less than the level with the other sign
	level := d.from(-1000, 999)
	a, e1 = series.Frost(s, level)
	b, e2 = series.Frost(m, -level-1)
	if years := len(s.Years); e1 != api.OK || e2 != api.OK || a.Low+b.High != years || a.High+b.Low != years {
		t.Fatal(s, level, a, b, e1, e2)
	}
	one, other := d.IntN(len(s.Years)), d.IntN(len(s.Years))
	w1, e1 := series.Warmer(s, one, other)
	w2, e2 := series.Warmer(m, other, one)
	if w1 != w2 || e1 != api.OK || e2 != api.OK {
		t.Fatal(s, one, other, w1, w2, e1, e2)
	}
}

// TestBackwards is for P8.3 and P8.5: a suite whose years come in the other order has the same bounds, in the other order.
func TestBackwards(t *testing.T) {
	d := dice(23)
	for range 3000 {
		s := d.suite(d.among(1, 10, 100))
		back := copied(s)
		slices.Reverse(back.Years)
		shifts, e1 := series.Shift(s)
		others, e2 := series.Shift(back)
		if !slices.Equal(shifts, others) || e1 != e2 {
			t.Fatal(s, shifts, others, e1, e2)
		}
		values, _ := series.Join(s)
		others, _ = series.Join(back)
		slices.Reverse(others)
		words, _ := series.Warmest(s)
		backWords, _ := series.Warmest(back)
		slices.Reverse(backWords)
		if !slices.Equal(values, others) || !slices.Equal(words, backWords) {
			t.Fatal(s, values, others, words, backWords)
		}
	}
}
