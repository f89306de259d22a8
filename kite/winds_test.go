package kite_test

import (
	"slices"
	"testing"

	"isobar/api"
	"isobar/kite"
)

// winds returns what is known of winds: of the top, and of those to the east and then to the north.
func winds(top api.Span, known ...api.Span) api.KiteWinds {
	half := len(known) / 2
	return api.KiteWinds{Top: top, East: known[:half], North: known[half:]}
}

// impossible returns flights that no truth fits.
func impossible() []api.KiteFlight {
	return append(spoiled(
		func(f *api.KiteFlight) { f.Minutes = span(12, 20) },
		func(f *api.KiteFlight) { f.Minutes = span(0, 4) },
		func(f *api.KiteFlight) { f.Minutes = span(6, 10) },
		func(f *api.KiteFlight) { f.Minutes = span(5, 5) },
		func(f *api.KiteFlight) { f.Top = span(1, 1) },
		func(f *api.KiteFlight) { f.East = span(52, 60) },
		func(f *api.KiteFlight) { f.East = span(0, 4) },
		func(f *api.KiteFlight) { f.East = span(30, 33) },
		func(f *api.KiteFlight) { f.North = span(6, 9) },
		func(f *api.KiteFlight) { f.North = span(-11, -8) },
		func(f *api.KiteFlight) { f.North = span(-20, -13) },
		func(f *api.KiteFlight) { f.North = span(2, 4) },
		func(f *api.KiteFlight) { f.East, f.North = span(5, 15), span(-12, -1) }, // each is possible, but not both
		func(f *api.KiteFlight) { f.East, f.North = span(29, 51), span(1, 4) },
		func(f *api.KiteFlight) { f.East, f.North, f.Minutes = span(5, 15), span(0, 5), span(11, 11) },
	), least())
}

// TestWinds is for P7.5: the chapter's example, and the edges.
func TestWinds(t *testing.T) {
	all := winds(span(1, 2), span(1, 3), span(4, 6), span(0, 1), span(-2, 0))
	for i, x := range []struct {
		change func(*api.KiteFlight)
		want   api.KiteWinds
	}{
		{func(f *api.KiteFlight) {}, winds(span(2, 2), span(1, 2), span(5, 6), span(0, 1), span(-2, -1))},
		{func(f *api.KiteFlight) { f.East, f.North = span(-100000, 100000), span(-100000, 100000) }, all},
		{func(f *api.KiteFlight) { f.East, f.North = span(5, 51), span(-12, 5) }, all},
		{func(f *api.KiteFlight) { f.East = span(40, 40) }, winds(span(2, 2), span(2, 2), span(5, 5), span(0, 1), span(-2, -1))},
		{func(f *api.KiteFlight) { f.East = span(41, 41) }, winds(span(2, 2), span(1, 1), span(6, 6), span(0, 1), span(-2, -1))},
		{func(f *api.KiteFlight) { f.North = span(-6, -6) }, winds(span(2, 2), span(1, 2), span(5, 6), span(0, 0), span(-1, -1))},
		{func(f *api.KiteFlight) { f.North = span(-7, -7) }, winds(span(2, 2), span(1, 2), span(5, 6), span(1, 1), span(-2, -2))},
		// the balloon does not go through the layer 1
		{func(f *api.KiteFlight) { f.Top, f.East, f.North = span(1, 1), span(10, 10), span(5, 5) }, winds(span(1, 1), span(2, 2), span(4, 6), span(1, 1), span(-2, 0))},
		{func(f *api.KiteFlight) { f.East, f.North = span(10, 15), span(0, 0) }, winds(span(1, 1), span(2, 3), span(4, 6), span(0, 0), span(-2, 0))},
		{func(f *api.KiteFlight) { f.East, f.North, f.Minutes = span(0, 100), span(0, 0), span(5, 5) }, winds(span(1, 1), span(1, 3), span(4, 6), span(0, 0), span(-2, 0))},
		// both tops can be, each with other winds
		{func(f *api.KiteFlight) { f.East, f.North = span(15, 29), span(0, 0) }, winds(span(1, 2), span(1, 3), span(4, 6), span(0, 0), span(-2, 0))},
		{func(f *api.KiteFlight) { f.East, f.North = span(14, 15), span(5, 5) }, winds(span(1, 1), span(3, 3), span(4, 6), span(1, 1), span(-2, 0))},
		// at 198 and 199 it is 6 minutes in the layer 0, and 7 in the layer 1
		{func(f *api.KiteFlight) { f.Up, f.Minutes = span(198, 201), span(12, 13) }, winds(span(2, 2), span(1, 2), span(4, 5), span(0, 0), span(-1, -1))},
		{func(f *api.KiteFlight) { f.Up = span(198, 201) }, winds(span(2, 2), span(1, 2), span(4, 6), span(0, 1), span(-2, -1))},
		{func(f *api.KiteFlight) { f.Up, f.Down = span(200, 203), span(400, 403) }, winds(span(2, 2), span(1, 2), span(5, 6), span(0, 1), span(-2, -1))},
		{func(f *api.KiteFlight) { f.Minutes = span(11, 11) }, winds(span(2, 2), span(1, 2), span(5, 6), span(0, 1), span(-2, -1))},
		{func(f *api.KiteFlight) { f.Layers[1].East = span(5, 5) }, winds(span(2, 2), span(2, 2), span(5, 5), span(0, 1), span(-2, -1))},
	} {
		f := flightF()
		x.change(&f)
		if w, e := kite.Winds(f); !sameWinds(w, x.want) || e != api.OK {
			t.Error(i, w, e)
		}
	}
}

// TestImpossible is for P7.5 and P7.6: flights that are not possible.
func TestImpossible(t *testing.T) {
	for i, f := range impossible() {
		if e := kite.Check(f); e != api.OK {
			t.Error(i, e)
		}
		if lookAt(f).fits != 0 {
			t.Error(i, "is possible")
		}
		if w, e := kite.Winds(f); !sameWinds(w, api.KiteWinds{}) || e != api.ErrRule {
			t.Error(i, w, e)
		}
		if in, e := kite.First(f); !same(in, api.KiteTruth{}) || e != api.ErrRule {
			t.Error(i, in, e)
		}
		for _, s := range shows(len(f.Layers)) {
			if in, e := kite.Show(f, s.layer, s.north, s.high); !same(in, api.KiteTruth{}) || e != api.ErrRule {
				t.Error(i, s, in, e)
			}
		}
		if _, e := kite.Land(f); e != api.OK {
			t.Error(i, e)
		}
	}
}

// kinds counts flights: those that are not possible, those of which some winds are known more closely than their layers say, and those that can have had several tops.
type kinds struct{ none, narrow, tops int }

// windsAs reports what Winds returns that is not what a look at the flight showed, and counts the flight.
func (k *kinds) windsAs(t *testing.T, f api.KiteFlight, want looked) {
	t.Helper()
	w, e := kite.Winds(f)
	if want.fits == 0 {
		k.none++
		if !sameWinds(w, api.KiteWinds{}) || e != api.ErrRule {
			t.Fatal(f, w, e)
		}
		return
	}
	if !sameWinds(w, want.winds) || e != api.OK {
		t.Fatal(f, w, want.winds, e)
	}
	if !slices.Equal(w.East, spansTo(f, false)) || !slices.Equal(w.North, spansTo(f, true)) {
		k.narrow++
	}
	if w.Top.Low < w.Top.High {
		k.tops++
	}
}

// TestWindsOfAll is for P7.5: winds and the top lie within their bounds in all truths that fit small flights, and all ends are reached.
func TestWindsOfAll(t *testing.T) {
	d := dice(9)
	var k kinds
	for range 3000 {
		f := d.flight(3, d.among(1, 1, 2), 1)
		k.windsAs(t, f, lookAt(f))
	}
	if k.none < 150 || k.narrow < 800 || k.tops < 100 {
		t.Error("too few of a kind:", k)
	}
}

// TestWindsOfMany is for P7.5: winds and the top lie within their bounds in all truths that fit flights of all sizes, and all ends are reached.
func TestWindsOfMany(t *testing.T) {
	d := dice(10)
	var k kinds
	for range 400 {
		f := d.flight(4, d.among(3, 8), d.from(0, 3))
		k.windsAs(t, f, lookApart(f))
	}
	if k.none < 15 || k.narrow < 150 || k.tops < 15 {
		t.Error("too few of a kind:", k)
	}
}

// TestWindsOfTruths is for P7.5: whatever is true of a flight, its winds and its top lie within the bounds once the balloon was found where it came down.
func TestWindsOfTruths(t *testing.T) {
	d := dice(11)
	for range 1500 {
		f := d.flight(4, 8, 3)
		in := d.truth(f)
		east, north, minutes := landOf(f, in)
		f.East, f.North, f.Minutes = span(east-d.IntN(5), east+d.IntN(5)), span(north-d.IntN(5), north+d.IntN(5)), span(minutes, minutes+d.IntN(3))
		w, e := kite.Winds(f)
		if e != api.OK || !has(w.Top, in.Top) {
			t.Fatal(f, in, w, e)
		}
		for i := range f.Layers {
			if !has(w.East[i], in.East[i]) || !has(w.North[i], in.North[i]) || !inside(w.East[i], f.Layers[i].East) || !inside(w.North[i], f.Layers[i].North) {
				t.Fatal(f, in, w, i)
			}
		}
	}
}
