package kite_test

import (
	"math"
	"slices"
	"testing"

	"isobar/api"
	"isobar/kite"
)

// TestFirst is for P7.6: the chapter's example, and the edges.
func TestFirst(t *testing.T) {
	for i, x := range []struct {
		change func(*api.KiteFlight)
		want   api.KiteTruth
	}{
		{func(f *api.KiteFlight) {}, truth(200, 400, 2, 1, 6, 0, -1)},
		{func(f *api.KiteFlight) { f.East, f.North = span(0, 100), span(-100, 100) }, truth(200, 400, 1, 1, 4, 0, -2)},
		{func(f *api.KiteFlight) { f.East, f.North, f.Top = span(0, 100), span(-100, 100), span(2, 2) }, truth(200, 400, 2, 1, 4, 0, -2)},
		{func(f *api.KiteFlight) { f.East, f.North, f.Minutes = span(0, 100), span(-100, 100), span(6, 11) }, truth(200, 400, 2, 1, 4, 0, -2)},
		{func(f *api.KiteFlight) { f.East = span(40, 40) }, truth(200, 400, 2, 2, 5, 0, -1)},
		{func(f *api.KiteFlight) { f.North = span(-7, -7) }, truth(200, 400, 2, 1, 6, 1, -2)},
		{func(f *api.KiteFlight) { f.East, f.North = span(15, 15), span(5, 5) }, truth(200, 400, 1, 3, 4, 1, -2)},
		{func(f *api.KiteFlight) { f.East, f.North = span(29, 29), span(5, 5) }, truth(200, 400, 2, 1, 4, 1, 0)},
		{func(f *api.KiteFlight) { f.Up, f.East, f.North = span(199, 202), span(15, 15), span(0, 0) }, truth(200, 400, 1, 3, 4, 0, -2)},
		{func(f *api.KiteFlight) {
			f.Up, f.Down, f.East, f.North = span(199, 202), span(398, 401), span(15, 15), span(0, 0)
		}, truth(200, 398, 1, 3, 4, 0, -2)},
		{func(f *api.KiteFlight) {
			f.Up, f.Down, f.East, f.North = span(198, 201), span(400, 402), span(12, 12), span(0, 0)
		}, truth(198, 400, 1, 2, 4, 0, -2)},
	} {
		f := flightF()
		x.change(&f)
		if in, e := kite.First(f); !same(in, x.want) || e != api.OK {
			t.Error(i, in, e)
		}
	}
}

// TestShow is for P7.6: the chapter's examples, and the edges.
func TestShow(t *testing.T) {
	f := flightF()
	one := flightF()
	one.Top, one.East, one.North = span(1, 1), span(10, 15), span(0, 5)
	two := flightF()
	two.East, two.North = span(15, 29), span(0, 0)
	for i, x := range []struct {
		f    api.KiteFlight
		s    show
		want api.KiteTruth
	}{
		{f, show{0, true, true}, truth(200, 400, 2, 1, 6, 1, -2)},
		{f, show{1, false, false}, truth(200, 400, 2, 2, 5, 0, -1)},
		{f, show{0, false, false}, truth(200, 400, 2, 1, 6, 0, -1)},
		{f, show{0, false, true}, truth(200, 400, 2, 2, 5, 0, -1)},
		{f, show{0, true, false}, truth(200, 400, 2, 1, 6, 0, -1)},
		{f, show{1, false, true}, truth(200, 400, 2, 1, 6, 0, -1)},
		{f, show{1, true, false}, truth(200, 400, 2, 1, 6, 1, -2)},
		{f, show{1, true, true}, truth(200, 400, 2, 1, 6, 0, -1)},
		// the balloon does not go through the layer 1
		{one, show{0, false, true}, truth(200, 400, 1, 3, 4, 0, -2)},
		{one, show{1, false, false}, truth(200, 400, 1, 2, 4, 0, -2)},
		{one, show{1, false, true}, truth(200, 400, 1, 2, 6, 0, -2)},
		{one, show{1, true, true}, truth(200, 400, 1, 2, 4, 0, 0)},
		// the first top does not show it
		{two, show{0, false, false}, truth(200, 400, 2, 1, 4, 0, 0)},
		{two, show{0, false, true}, truth(200, 400, 1, 3, 4, 0, -2)},
		{two, show{1, false, true}, truth(200, 400, 1, 3, 6, 0, -2)},
	} {
		if in, e := kite.Show(x.f, x.s.layer, x.s.north, x.s.high); !same(in, x.want) || e != api.OK {
			t.Error(i, in, e)
		}
	}
}

// TestShowErrors is for P7.6: layers that there are not, also of a flight that is not possible.
func TestShowErrors(t *testing.T) {
	never := flightF()
	never.Minutes = span(12, 20)
	for _, f := range []api.KiteFlight{flightF(), never} {
		for _, layer := range []int{-1, 2, 3, 4, math.MinInt, math.MaxInt} {
			for _, s := range shows(1) {
				if in, e := kite.Show(f, layer, s.north, s.high); !same(in, api.KiteTruth{}) || e != api.ErrArg {
					t.Error(f, layer, s, in, e)
				}
			}
		}
	}
	if in, e := kite.Show(greatest(), 4, false, false); !same(in, api.KiteTruth{}) || e != api.ErrArg {
		t.Error(in, e)
	}
	if in, e := kite.Show(greatest(), 3, false, true); !same(in, truth(997, 997, 1, 92, 92, 92, 100, 92, 92, 92, 92)) || e != api.OK {
		t.Error(in, e)
	}
}

// shownAs reports what First and Show return that is not what a look at the flight showed.
func shownAs(t *testing.T, f api.KiteFlight, want looked) {
	t.Helper()
	if in, e := kite.First(f); !same(in, want.first) || e != api.OK {
		t.Fatal(f, in, want.first, e)
	}
	for _, s := range shows(len(f.Layers)) {
		if in, e := kite.Show(f, s.layer, s.north, s.high); !same(in, want.shown[s]) || e != api.OK {
			t.Fatal(f, s, in, want.shown[s], e)
		}
	}
}

// TestShowOfAll is for P7.6: among all truths of small flights, what is returned fits, and is the first one in which the end is reached.
func TestShowOfAll(t *testing.T) {
	d := dice(12)
	possible, later := 0, 0
	for range 4000 {
		f := d.flight(3, d.among(1, 1, 2), 1)
		want := lookAt(f)
		if want.fits == 0 {
			continue
		}
		shownAs(t, f, want)
		possible++
		for _, s := range shows(len(f.Layers)) {
			if in := want.shown[s]; in.Up > want.first.Up || in.Down > want.first.Down || in.Top > want.first.Top {
				later++
			}
		}
	}
	if possible < 2000 || later < 100 {
		t.Error("too few of a kind:", possible, later)
	}
}

// TestShowOfMany is for P7.6: the same for flights of all sizes.
func TestShowOfMany(t *testing.T) {
	d := dice(13)
	possible := 0
	for range 400 {
		f := d.flight(4, d.among(3, 8), d.from(0, 3))
		if want := lookApart(f); want.fits > 0 {
			shownAs(t, f, want)
			possible++
		}
	}
	if possible < 200 {
		t.Error("too few are possible:", possible)
	}
}

// near returns a truth of a flight that differs a little from another one.
func (d dicer) near(f api.KiteFlight, in api.KiteTruth) api.KiteTruth {
	in = copied(in)
	for range d.from(1, 4) {
		layer := d.IntN(len(f.Layers))
		switch d.IntN(5) {
		case 0:
			in.Up = d.of(f.Up)
		case 1:
			in.Down = d.of(f.Down)
		case 2:
			in.Top = d.of(f.Top)
		case 3:
			in.East[layer] = d.of(f.Layers[layer].East)
		default:
			in.North[layer] = d.of(f.Layers[layer].North)
		}
	}
	return in
}

// TestProposals is for P7.6: no truth that somebody proposes, and that fits, comes before what is returned.
func TestProposals(t *testing.T) {
	d := dice(14)
	fit := 0
	for range 1500 {
		f := d.flight(4, d.among(2, 8), 3)
		first, e := kite.First(f)
		if e != api.OK {
			continue
		}
		if fits, e := kite.Fits(f, first); !fits || e != api.OK {
			t.Fatal(f, first, e)
		}
		w, _ := kite.Winds(f)
		s := shows(len(f.Layers))[d.IntN(4*len(f.Layers))]
		shown, e := kite.Show(f, s.layer, s.north, s.high)
		if fits, err := kite.Fits(f, shown); !fits || e != api.OK || err != api.OK || windsTo(shown, s.north)[s.layer] != s.end(w) {
			t.Fatal(f, s, shown, e, err)
		}
		for range 100 {
			in := d.truth(f)
			if d.IntN(2) == 0 {
				in = d.near(f, shown)
			}
			if fits, e := kite.Fits(f, in); !fits || e != api.OK {
				continue
			}
			fit++
			wind := windsTo(in, s.north)[s.layer]
			if slices.Compare(flat(in), flat(first)) < 0 || wind == s.end(w) && slices.Compare(flat(in), flat(shown)) < 0 {
				t.Fatal(f, s, in, first, shown)
			}
		}
	}
	if fit < 5000 {
		t.Error("too few fit:", fit)
	}
}
