package low_test

import (
	"math"
	"slices"
	"testing"

	"isobar/api"
	"isobar/low"
)

// widest returns a suite with all numbers as great as they can be.
func widest() api.LowSuite {
	s := api.LowSuite{Speed: 50, Deepen: 1000, Born: 12, Gone: 12}
	for i := range 4 {
		s.Maps = append(s.Maps, chart(197+i, anywhere(), anywhere(), spot(span(100, 100), span(100, 100), span(99999, 99999))))
	}
	return s
}

// wrongSuites returns suites that are not as defined.
func wrongSuites() []api.LowSuite {
	var out []api.LowSuite
	for _, change := range []func(*api.LowSuite){
		func(s *api.LowSuite) { s.Maps = nil },
		func(s *api.LowSuite) { s.Maps = append(widest().Maps, chart(201)) },
		func(s *api.LowSuite) {
			s.Maps = append([]api.LowMap{chart(0), chart(1)}, chart(2), chart(3), chart(4))
		},
		func(s *api.LowSuite) { s.Speed = -1 },
		func(s *api.LowSuite) { s.Speed = 51 },
		func(s *api.LowSuite) { s.Deepen = -1 },
		func(s *api.LowSuite) { s.Deepen = 1001 },
		func(s *api.LowSuite) { s.Born = -1 },
		func(s *api.LowSuite) { s.Born = 13 },
		func(s *api.LowSuite) { s.Gone = -1 },
		func(s *api.LowSuite) { s.Gone = 13 },
		func(s *api.LowSuite) { s.Maps[0].At = -1 },
		func(s *api.LowSuite) { s.Maps[2].At = 201 },
		func(s *api.LowSuite) { s.Maps[1].At = 0 },
		func(s *api.LowSuite) { s.Maps[1].At = 12 },
		func(s *api.LowSuite) { s.Maps[2].At = 5 },
		func(s *api.LowSuite) { s.Maps[0].At, s.Maps[1].At = 6, 0 },
		func(s *api.LowSuite) { s.Maps[2].Spots = slices.Repeat(s.Maps[2].Spots, 4) },
		func(s *api.LowSuite) { s.Maps[1].Spots[1].X = span(-1, 5) },
		func(s *api.LowSuite) { s.Maps[1].Spots[1].X = span(5, 101) },
		func(s *api.LowSuite) { s.Maps[1].Spots[1].X = span(6, 5) },
		func(s *api.LowSuite) { s.Maps[1].Spots[0].Y = span(-1, 5) },
		func(s *api.LowSuite) { s.Maps[1].Spots[0].Y = span(5, 101) },
		func(s *api.LowSuite) { s.Maps[1].Spots[0].Y = span(6, 5) },
		func(s *api.LowSuite) { s.Maps[2].Spots[0].Depth = span(-1, 5) },
		func(s *api.LowSuite) { s.Maps[2].Spots[0].Depth = span(5, 100000) },
		func(s *api.LowSuite) { s.Maps[2].Spots[0].Depth = span(6, 5) },
		func(s *api.LowSuite) { s.Maps[0].Spots[0].X = span(math.MaxInt, math.MinInt) },
	} {
		s := suiteS()
		change(&s)
		out = append(out, s)
	}
	return out
}

// TestCheck is for P4.1.
func TestCheck(t *testing.T) {
	for i, s := range []api.LowSuite{suiteS(), torn(), widest(), {Maps: []api.LowMap{{}}}, {Maps: []api.LowMap{chart(200)}}, {Maps: []api.LowMap{chart(0, []api.LowSpot{}...), chart(1, spot(span(0, 0), span(0, 0), span(0, 0)))}}} {
		if e := low.Check(s); e != api.OK {
			t.Error(i, e)
		}
	}
	for i, s := range wrongSuites() {
		if e := low.Check(s); e != api.ErrArg {
			t.Error(i, e)
		}
	}
}

// TestFits is for P4.1.
func TestFits(t *testing.T) {
	for i, x := range []struct {
		change func(*api.LowSuite, *api.LowTruth)
		want   bool
	}{
		{func(s *api.LowSuite, t *api.LowTruth) {}, true},
		// ends of spans
		{func(s *api.LowSuite, t *api.LowTruth) { t.X[0][0] = 9 }, true},
		{func(s *api.LowSuite, t *api.LowTruth) { t.X[0][0] = 10 }, false},
		{func(s *api.LowSuite, t *api.LowTruth) { t.X[0][0] = 7 }, false},
		{func(s *api.LowSuite, t *api.LowTruth) { t.Y[0][1] = 55 }, false},
		{func(s *api.LowSuite, t *api.LowTruth) { t.Depth[2][0] = 74199 }, false},
		{func(s *api.LowSuite, t *api.LowTruth) { t.X[1][1] = math.MinInt }, false},
		{func(s *api.LowSuite, t *api.LowTruth) { t.Y[1][1] = math.MaxInt }, false},
		{func(s *api.LowSuite, t *api.LowTruth) { t.Depth[0][0], t.Depth[1][0] = math.MinInt, math.MaxInt }, false},
		// too fast
		{func(s *api.LowSuite, t *api.LowTruth) { t.X[1][0] = 21 }, false},
		{func(s *api.LowSuite, t *api.LowTruth) { t.X[0][0], t.X[1][0] = 9, 21 }, true},
		{func(s *api.LowSuite, t *api.LowTruth) { t.Same[2][0], t.X[1][1], t.Depth[2][0] = 1, 40, 74600 }, true},
		{func(s *api.LowSuite, t *api.LowTruth) { t.Same[2][0], t.X[1][1], t.Depth[2][0] = 1, 40, 74599 }, false},
		{func(s *api.LowSuite, t *api.LowTruth) { s.Maps[1].Spots[0].X, t.X[1][0] = span(19, 22), 19 }, false},
		{func(s *api.LowSuite, t *api.LowTruth) { s.Maps[0].Spots[0].Y, t.Y[0][0] = span(62, 62), 62 }, true},
		{func(s *api.LowSuite, t *api.LowTruth) { s.Maps[0].Spots[0].Y, t.Y[0][0] = span(63, 63), 63 }, false},
		{func(s *api.LowSuite, t *api.LowTruth) { s.Maps[0].Spots[0].Y, t.Y[0][0] = span(37, 37), 37 }, false},
		// too deep, or filled too fast
		{func(s *api.LowSuite, t *api.LowTruth) { t.Depth[2][0] = 74551 }, false},
		{func(s *api.LowSuite, t *api.LowTruth) { t.Depth[2][0] = 74550 }, true},
		{func(s *api.LowSuite, t *api.LowTruth) {
			s.Maps[0].Spots[1].Depth, t.Depth[0][1] = span(75201, 75201), 75201
		}, false},
		{func(s *api.LowSuite, t *api.LowTruth) {
			s.Maps[0].Spots[1].Depth, t.Depth[0][1] = span(75200, 75200), 75200
		}, true},
		// a number is twice on a map, which -1 can be
		{func(s *api.LowSuite, t *api.LowTruth) { s.Maps[1].Spots[1], t.Same[1][1] = s.Maps[1].Spots[0], 0 }, false},
		{func(s *api.LowSuite, t *api.LowTruth) { t.Same[1], s.Born, s.Gone = []int{-1, -1}, 2, 3 }, true},
		// too many are born, or end
		{func(s *api.LowSuite, t *api.LowTruth) { t.Same[1], s.Born, s.Gone = []int{-1, -1}, 1, 3 }, false},
		{func(s *api.LowSuite, t *api.LowTruth) { t.Same[1], s.Born, s.Gone = []int{-1, -1}, 2, 2 }, false},
		{func(s *api.LowSuite, t *api.LowTruth) { s.Gone = 0 }, false},
		{func(s *api.LowSuite, t *api.LowTruth) { t.Same[2][0], s.Gone = -1, 12 }, false},
		{func(s *api.LowSuite, t *api.LowTruth) { t.Same[2][0], s.Born = -1, 12 }, false},
		{func(s *api.LowSuite, t *api.LowTruth) { t.Same[2][0], s.Born, s.Gone = -1, 1, 2 }, true},
		// one map alone
		{func(s *api.LowSuite, t *api.LowTruth) {
			*s = cut(*s, 1)
			t.Same, t.X, t.Y, t.Depth = t.Same[:1], t.X[:1], t.Y[:1], t.Depth[:1]
			s.Gone = 0
		}, true},
	} {
		s, truth := suiteS(), truthS()
		x.change(&s, &truth)
		if is, e := low.Fits(s, truth); e != api.OK || is != x.want {
			t.Error(i, is, e)
		}
	}
}

// TestFitsErrors is for P4.1.
func TestFitsErrors(t *testing.T) {
	for i, change := range []func(*api.LowTruth){
		func(t *api.LowTruth) { t.Same = nil },
		func(t *api.LowTruth) { t.Same = t.Same[:2] },
		func(t *api.LowTruth) { t.X = append(t.X, nil) },
		func(t *api.LowTruth) { t.Y = t.Y[:2] },
		func(t *api.LowTruth) { t.Depth = t.Depth[1:] },
		func(t *api.LowTruth) { t.Same[1] = append(t.Same[1], -1) },
		func(t *api.LowTruth) { t.Same[0] = nil },
		func(t *api.LowTruth) { t.X[2] = nil },
		func(t *api.LowTruth) { t.Y[0] = t.Y[0][:1] },
		func(t *api.LowTruth) { t.Depth[2] = append(t.Depth[2], 74500) },
		func(t *api.LowTruth) { t.X[0], t.X[2] = t.X[2], t.X[0] },
		func(t *api.LowTruth) { t.Same[0][0] = 0 },
		func(t *api.LowTruth) { t.Same[0][1] = -2 },
		func(t *api.LowTruth) { t.Same[1][0] = 2 },
		func(t *api.LowTruth) { t.Same[1][0] = -2 },
		func(t *api.LowTruth) { t.Same[2][0] = 2 },
		func(t *api.LowTruth) { t.Same[2][0] = math.MaxInt },
		func(t *api.LowTruth) { t.Same[2][0], t.X[0][0] = math.MinInt, 0 },
	} {
		truth := truthS()
		change(&truth)
		if is, e := low.Fits(suiteS(), truth); is || e != api.ErrArg {
			t.Error(i, is, e)
		}
	}
	for i, s := range wrongSuites() {
		if is, e := low.Fits(s, truthS()); is || e != api.ErrArg {
			t.Error(i, is, e)
		}
		if at, e := low.Clash(s); at != 0 || e != api.ErrArg {
			t.Error(i, at, e)
		}
	}
	// a map without lows has no low that can be the same one
	s := api.LowSuite{Maps: []api.LowMap{chart(0), chart(1, at(1, 1))}, Born: 1}
	truth := api.LowTruth{Same: [][]int{nil, {-1}}, X: [][]int{nil, {1}}, Y: [][]int{{}, {1}}, Depth: [][]int{nil, {7}}}
	if is, e := low.Fits(s, truth); !is || e != api.OK {
		t.Error(is, e)
	}
	truth.Same[1][0] = 0
	if is, e := low.Fits(s, truth); is || e != api.ErrArg {
		t.Error(is, e)
	}
}

// changed changes one number of a truth, and returns whether it has any.
func (d dicer) changed(s api.LowSuite, t *api.LowTruth) bool {
	i := d.IntN(len(s.Maps))
	if len(s.Maps[i].Spots) == 0 {
		return false
	}
	j := d.IntN(len(s.Maps[i].Spots))
	switch d.IntN(4) {
	case 0:
		t.X[i][j] += d.among(-1, 1)
	case 1:
		t.Y[i][j] += d.among(-1, 1)
	case 2:
		t.Depth[i][j] += d.among(-1, 1)
	case 3:
		if i == 0 {
			return false
		}
		t.Same[i][j] = d.from(-1, len(s.Maps[i-1].Spots)-1)
	}
	return true
}

// TestFitsTried is for P4.1: truths, and what is almost one, are held against what the chapter says.
func TestFitsTried(t *testing.T) {
	d := dice(41)
	counts := map[bool]int{}
	for i := range 20000 {
		c := d.small()
		if i%4 == 0 {
			c = d.large()
		}
		c.spareBorn, c.spareGone = d.from(0, 1), d.from(0, 1)
		s, truth := d.history(c)
		if is, e := low.Fits(s, truth); !is || e != api.OK || !isTruth(s, truth) {
			t.Fatal(s, truth, is, e)
		}
		for range d.from(1, 3) {
			d.changed(s, &truth)
		}
		want := isTruth(s, truth)
		counts[want]++
		if is, e := low.Fits(s, truth); is != want || e != api.OK {
			t.Fatal(s, truth, is, e)
		}
	}
	if counts[true] < 2000 || counts[false] < 2000 {
		t.Error("the truths are not mixed enough:", counts)
	}
}

// TestClashExamples is for P4.1.
func TestClashExamples(t *testing.T) {
	slow, sure, two := suiteS(), suiteS(), suiteS()
	slow.Speed = 1
	sure.Gone = 0
	two.Maps = append(two.Maps, chart(13), chart(14))[:4]
	for i, x := range []struct {
		s    api.LowSuite
		want int
		e    api.Errno
	}{
		{suiteS(), 0, api.ErrNone},
		{slow, 1, api.OK},
		// on the last map of two no low ends
		{sure, 2, api.OK},
		{cut(sure, 2), 0, api.ErrNone},
		{two, 3, api.OK},
		{torn(), 2, api.OK},
		{cut(torn(), 2), 0, api.ErrNone},
		{widest(), 0, api.ErrNone},
		{api.LowSuite{Maps: []api.LowMap{chart(5, at(1, 1), at(1, 1), at(1, 1))}}, 0, api.ErrNone},
		{api.LowSuite{Maps: []api.LowMap{chart(5), chart(6), chart(7, at(1, 1))}}, 2, api.OK},
		{api.LowSuite{Maps: []api.LowMap{chart(5), chart(6), chart(7, at(1, 1))}, Born: 1}, 0, api.ErrNone},
		{api.LowSuite{Maps: []api.LowMap{chart(5, at(1, 1)), chart(6)}, Born: 9}, 1, api.OK},
		{api.LowSuite{Maps: []api.LowMap{chart(5, at(1, 1)), chart(6)}, Gone: 1}, 0, api.ErrNone},
		{api.LowSuite{Maps: []api.LowMap{chart(5, at(1, 1)), chart(6, at(1, 2))}}, 1, api.OK},
		{api.LowSuite{Maps: []api.LowMap{chart(5, at(1, 1)), chart(6, at(2, 1))}}, 1, api.OK},
		{api.LowSuite{Maps: []api.LowMap{chart(5, at(1, 1)), chart(6, at(2, 2))}, Speed: 1}, 0, api.ErrNone},
	} {
		if at, e := low.Clash(x.s); at != x.want || e != x.e {
			t.Error(i, at, e)
		}
	}
}

// TestClashTried is for P4.1: no truth fits a suite with the map, or more, but one with less.
func TestClashTried(t *testing.T) {
	d := dice(42)
	counts := map[int]int{}
	for range 6000 {
		c := d.small()
		c.off, c.spareBorn, c.spareGone = 90, 0, 0
		s := d.suite(c)
		want, wantError := 0, api.ErrNone
		for i := range s.Maps {
			found := false
			for range someTruths(cut(s, i+1)) {
				found = true
				break
			}
			if !found {
				want, wantError = i, api.OK
				break
			}
		}
		counts[want]++
		if at, e := low.Clash(s); at != want || e != wantError {
			t.Fatal(s, at, e, want)
		}
	}
	if counts[0] < 300 || counts[1] < 100 || counts[2] < 100 || counts[3] < 50 {
		t.Error("the suites are not mixed enough:", counts)
	}
}
