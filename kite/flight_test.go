package kite_test

import (
	"math"
	"slices"
	"testing"

	"isobar/api"
	"isobar/kite"
)

// greatest returns a flight with all numbers as great as they can be, and all layers.
func greatest() api.KiteFlight {
	l := api.KiteLayer{Deep: 3000, East: span(92, 100), North: span(92, 100)}
	return api.KiteFlight{
		Layers: []api.KiteLayer{l, l, l, l}, Up: span(997, 1000), Down: span(997, 1000), Top: span(1, 4),
		East: span(-100000, 100000), North: span(-100000, 100000), Minutes: span(0, 100000),
	}
}

// least returns a flight with all numbers as small as they can be, and one layer.
func least() api.KiteFlight {
	return api.KiteFlight{
		Layers: []api.KiteLayer{{Deep: 1, East: span(-100, -100), North: span(-100, -100)}}, Up: span(50, 50), Down: span(50, 50), Top: span(1, 1),
		East: span(-100000, -100000), North: span(-100000, -100000), Minutes: span(0, 0),
	}
}

// slow returns the flight that takes longest, with the widest spans.
func slow() api.KiteFlight {
	l := api.KiteLayer{Deep: 3000, East: span(-4, 4), North: span(-100, -92)}
	return api.KiteFlight{
		Layers: []api.KiteLayer{l, l, l, l}, Up: span(50, 53), Down: span(50, 53), Top: span(1, 4),
		East: span(-100000, 100000), North: span(-100000, 100000), Minutes: span(0, 100000),
	}
}

// spoiled returns the flights to which some changes make the chapter's flight f.
func spoiled(changes ...func(*api.KiteFlight)) []api.KiteFlight {
	var out []api.KiteFlight
	for _, change := range changes {
		f := flightF()
		change(&f)
		out = append(out, f)
	}
	return out
}

// wrongFlights returns flights that are not as defined.
func wrongFlights() []api.KiteFlight {
	var changes []func(*api.KiteFlight)
	each := func(spans []api.Span, change func(*api.KiteFlight, api.Span)) {
		for _, s := range spans {
			changes = append(changes, func(f *api.KiteFlight) { change(f, s) })
		}
	}
	speeds := append(wrongSpans(50, 1000), span(50, 54), span(996, 1000), span(50, 1000), span(200, 204), span(200, 199))
	each(speeds, func(f *api.KiteFlight, s api.Span) { f.Up = s })
	each(speeds, func(f *api.KiteFlight, s api.Span) { f.Down = s })
	each(append(wrongSpans(1, 2), span(0, 0), span(1, 3), span(3, 3), span(2, 1)), func(f *api.KiteFlight, s api.Span) { f.Top = s })
	far := wrongSpans(-100000, 100000)
	each(far, func(f *api.KiteFlight, s api.Span) { f.East = s })
	each(far, func(f *api.KiteFlight, s api.Span) { f.North = s })
	each(append(wrongSpans(0, 100000), span(20, 19)), func(f *api.KiteFlight, s api.Span) { f.Minutes = s })
	winds := append(wrongSpans(-100, 100), span(-4, 5), span(0, 9), span(-100, -91), span(91, 100), span(-100, 100), span(1, 0))
	for layer := range 2 {
		each(winds, func(f *api.KiteFlight, s api.Span) { f.Layers[layer].East = s })
		each(winds, func(f *api.KiteFlight, s api.Span) { f.Layers[layer].North = s })
		for _, deep := range []int{0, -1, 3001, math.MinInt, math.MaxInt} {
			changes = append(changes, func(f *api.KiteFlight) { f.Layers[layer].Deep = deep })
		}
	}
	changes = append(changes,
		func(f *api.KiteFlight) { f.Layers = nil },
		func(f *api.KiteFlight) { f.Layers = []api.KiteLayer{} },
		func(f *api.KiteFlight) { f.Layers, f.Top = nil, span(0, 0) },
		func(f *api.KiteFlight) { f.Layers, f.Top = nil, span(1, 0) },
		func(f *api.KiteFlight) { f.Layers = f.Layers[:1] },
		func(f *api.KiteFlight) { f.Layers = append(f.Layers, api.KiteLayer{}) },
		func(f *api.KiteFlight) { f.Layers = slices.Repeat(f.Layers, 3)[:5] },
		func(f *api.KiteFlight) { f.Layers = slices.Repeat(f.Layers, 3) },
	)
	return append(spoiled(changes...), api.KiteFlight{})
}

// rightFlights returns flights at the edges of what is defined.
func rightFlights() []api.KiteFlight {
	return append(spoiled(
		func(f *api.KiteFlight) {},
		func(f *api.KiteFlight) { f.Up, f.Down = span(50, 53), span(997, 1000) },
		func(f *api.KiteFlight) { f.Up, f.Down = span(1000, 1000), span(50, 50) },
		func(f *api.KiteFlight) { f.Top = span(1, 1) },
		func(f *api.KiteFlight) { f.Top = span(2, 2) },
		func(f *api.KiteFlight) { f.East, f.North = span(100000, 100000), span(-100000, -100000) },
		func(f *api.KiteFlight) { f.Minutes = span(0, 0) },
		func(f *api.KiteFlight) { f.Minutes = span(100000, 100000) },
		func(f *api.KiteFlight) { f.Layers[0].East, f.Layers[1].North = span(-100, -92), span(92, 100) },
		func(f *api.KiteFlight) { f.Layers[1].East, f.Layers[0].North = span(-4, 4), span(100, 100) },
		func(f *api.KiteFlight) { f.Layers[0].Deep, f.Layers[1].Deep = 1, 3000 },
		func(f *api.KiteFlight) { f.Layers = slices.Repeat(f.Layers, 2) },
		func(f *api.KiteFlight) { f.Layers, f.Top = f.Layers[:1], span(1, 1) },
	), greatest(), least(), slow())
}

// TestCheck is for P7.4.
func TestCheck(t *testing.T) {
	for i, f := range rightFlights() {
		if e := kite.Check(f); e != api.OK {
			t.Error(i, f, e)
		}
	}
	for i, f := range wrongFlights() {
		if e := kite.Check(f); e != api.ErrArg {
			t.Error(i, f, e)
		}
	}
}

// TestFlightErrors is for P7.4, P7.5 and P7.6: flights that are not as defined.
func TestFlightErrors(t *testing.T) {
	for i, f := range wrongFlights() {
		for _, in := range []api.KiteTruth{truth(200, 400, 2, 2, 5, 0, -1), truth(f.Up.Low, f.Down.Low, f.Top.Low, 2, 5, 0, -1), {}} {
			if east, north, minutes, e := kite.Play(f, in); east != 0 || north != 0 || minutes != 0 || e != api.ErrArg {
				t.Error(i, f, east, north, minutes, e)
			}
			if fits, e := kite.Fits(f, in); fits || e != api.ErrArg {
				t.Error(i, f, fits, e)
			}
		}
		if l, e := kite.Land(f); l != (api.KiteLanding{}) || e != api.ErrArg {
			t.Error(i, f, l, e)
		}
		if w, e := kite.Winds(f); !sameWinds(w, api.KiteWinds{}) || e != api.ErrArg {
			t.Error(i, f, w, e)
		}
		if got, e := kite.First(f); !same(got, api.KiteTruth{}) || e != api.ErrArg {
			t.Error(i, f, got, e)
		}
		for _, layer := range []int{0, 1, -1} {
			if got, e := kite.Show(f, layer, true, false); !same(got, api.KiteTruth{}) || e != api.ErrArg {
				t.Error(i, f, got, e)
			}
		}
	}
}

// TestTruthErrors is for P7.4: what is no truth of a flight.
func TestTruthErrors(t *testing.T) {
	f := flightF()
	f.Up, f.Top = span(200, 202), span(1, 1)
	var wrong []api.KiteTruth
	add := func(change func(in *api.KiteTruth)) {
		in := truth(200, 400, 1, 2, 5, 0, -1)
		change(&in)
		wrong = append(wrong, in)
	}
	for _, n := range []int{0, 199, 203, 400, -200, math.MinInt, math.MaxInt} {
		add(func(in *api.KiteTruth) { in.Up = n })
	}
	for _, n := range []int{0, 399, 401, 200, -400, math.MinInt, math.MaxInt} {
		add(func(in *api.KiteTruth) { in.Down = n })
	}
	for _, n := range []int{0, 2, -1, math.MinInt, math.MaxInt} {
		add(func(in *api.KiteTruth) { in.Top = n })
	}
	// the wind of the layer 1 is a number of its spans, though the balloon does not go through it
	for layer, around := range [][]int{{0, 4}, {3, 7}} {
		for _, n := range append(around, math.MinInt, math.MaxInt) {
			add(func(in *api.KiteTruth) { in.East[layer] = n })
		}
	}
	for layer, around := range [][]int{{-1, 2}, {-3, 1}} {
		for _, n := range append(around, math.MinInt, math.MaxInt) {
			add(func(in *api.KiteTruth) { in.North[layer] = n })
		}
	}
	for _, list := range [][]int{nil, {}, {2}, {0}, {2, 5, 5}, {0, 0, 0}, {5, 2}} {
		add(func(in *api.KiteTruth) { in.East = list })
		add(func(in *api.KiteTruth) { in.North = list })
	}
	wrong = append(wrong, api.KiteTruth{})
	for i, in := range wrong {
		if east, north, minutes, e := kite.Play(f, in); east != 0 || north != 0 || minutes != 0 || e != api.ErrArg {
			t.Error(i, in, east, north, minutes, e)
		}
		if fits, e := kite.Fits(f, in); fits || e != api.ErrArg {
			t.Error(i, in, fits, e)
		}
	}
}

// TestPlay is for P7.4: the chapter's example, and the edges.
func TestPlay(t *testing.T) {
	deep := func(depths ...int) api.KiteFlight {
		f := api.KiteFlight{Up: span(50, 53), Down: span(997, 1000), Top: span(1, len(depths)), Minutes: span(0, 0)}
		for _, n := range depths {
			f.Layers = append(f.Layers, api.KiteLayer{Deep: n, East: span(-4, 4), North: span(-4, 4)})
		}
		return f
	}
	for i, x := range []struct {
		f                    api.KiteFlight
		in                   api.KiteTruth
		east, north, minutes int
	}{
		{flightF(), truth(200, 400, 2, 2, 5, 0, -1), 40, -6, 11},
		{flightF(), truth(200, 400, 1, 2, 5, 0, -1), 10, 0, 5},
		{flightF(), truth(200, 400, 1, 3, 6, 1, -2), 15, 5, 5},
		{flightF(), truth(200, 400, 2, 1, 4, 0, -2), 29, -12, 11},
		{deep(100), truth(50, 1000, 1, 1, 1), 3, 3, 3},
		{deep(101), truth(50, 1000, 1, 1, -1), 4, -4, 4},
		{deep(100), truth(51, 1000, 1, 1, 2), 3, 6, 3},
		{deep(1000), truth(50, 1000, 1, 1, 2), 21, 42, 21},
		{deep(1000), truth(50, 999, 1, 1, 2), 22, 44, 22},
		{deep(1001), truth(50, 1000, 1, 1, 2), 23, 46, 23},
		{deep(1), truth(53, 997, 1, 4, -4), 8, -8, 2},
		{deep(49), truth(50, 1000, 1, 4, -4), 8, -8, 2},
		{deep(50), truth(50, 1000, 1, 4, -4), 8, -8, 2},
		{deep(51), truth(50, 1000, 1, 4, -4), 12, -12, 3},
		{deep(1, 1, 1, 1), truth(50, 1000, 4, 1, 2, 3, 4, -1, 1, -1, 1), 20, 0, 8},
		{deep(1, 1, 1, 1), truth(50, 1000, 3, 1, 2, 3, 4, -1, 1, -1, 1), 12, -2, 6},
		{deep(1, 100, 200, 3000), truth(50, 1000, 3, 1, 2, 3, 4, -1, 1, -1, 1), 23, -4, 10},
		{slow(), truth(50, 50, 4, 4, 4, 4, 4, -100, -100, -100, -100), 1920, -48000, 480},
		{greatest(), truth(1000, 1000, 4, 100, 100, 100, 100, 92, 92, 92, 100), 2400, 2256, 24},
		{greatest(), truth(997, 1000, 1, 100, 100, 100, 100, 92, 92, 92, 100), 700, 644, 7},
		{least(), truth(50, 50, 1, -100, -100), -200, -200, 2},
	} {
		if east, north, minutes, e := kite.Play(x.f, x.in); east != x.east || north != x.north || minutes != x.minutes || e != api.OK {
			t.Error(i, east, north, minutes, e)
		}
	}
}

// TestFits is for P7.4: the edges of what the finder found.
func TestFits(t *testing.T) {
	in := truth(200, 400, 2, 2, 5, 0, -1) // comes down at 40, -6, after 11 minutes
	for i, x := range []struct {
		change func(*api.KiteFlight)
		want   bool
	}{
		{func(f *api.KiteFlight) {}, true},
		{func(f *api.KiteFlight) { f.East = span(39, 40) }, true},
		{func(f *api.KiteFlight) { f.East = span(40, 40) }, true},
		{func(f *api.KiteFlight) { f.East = span(41, 45) }, false},
		{func(f *api.KiteFlight) { f.East = span(-40, 39) }, false},
		{func(f *api.KiteFlight) { f.East = span(-6, -6) }, false},
		{func(f *api.KiteFlight) { f.North = span(-6, 0) }, true},
		{func(f *api.KiteFlight) { f.North = span(-9, -6) }, true},
		{func(f *api.KiteFlight) { f.North = span(-9, -7) }, false},
		{func(f *api.KiteFlight) { f.North = span(-5, 40) }, false},
		{func(f *api.KiteFlight) { f.North = span(6, 6) }, false},
		{func(f *api.KiteFlight) { f.Minutes = span(11, 11) }, true},
		{func(f *api.KiteFlight) { f.Minutes = span(0, 10) }, false},
		{func(f *api.KiteFlight) { f.Minutes = span(12, 100000) }, false},
		{func(f *api.KiteFlight) { f.Minutes = span(11, 100000) }, true},
		{func(f *api.KiteFlight) { f.East, f.North = f.North, f.East }, false},
	} {
		f := flightF()
		x.change(&f)
		if fits, e := kite.Fits(f, in); fits != x.want || e != api.OK {
			t.Error(i, fits, e)
		}
	}
}

// TestLand is for P7.4: the chapter's example, and the edges.
func TestLand(t *testing.T) {
	landing := func(east, north, minutes api.Span) api.KiteLanding {
		return api.KiteLanding{East: east, North: north, Minutes: minutes}
	}
	for i, x := range []struct {
		f    api.KiteFlight
		want api.KiteLanding
	}{
		{flightF(), landing(span(5, 51), span(-12, 5), span(5, 11))},
		{least(), landing(span(-200, -200), span(-200, -200), span(2, 2))},
		{greatest(), landing(span(552, 3200), span(552, 3200), span(6, 32))},
		{slow(), landing(span(-1920, 1920), span(-48000, -10488), span(114, 480))},
	} {
		if l, e := kite.Land(x.f); l != x.want || e != api.OK {
			t.Error(i, l, e)
		}
	}
	// what was found does not matter
	f := flightF()
	f.East, f.North, f.Minutes = span(9, 9), span(9, 9), span(0, 0)
	if l, e := kite.Land(f); l != landing(span(5, 51), span(-12, 5), span(5, 11)) || e != api.OK {
		t.Error(l, e)
	}
}

// landing returns between which bounds a balloon comes down, and flies, in some truths; a flight that was not gone through yet has no span.
func landing() api.KiteLanding {
	return api.KiteLanding{East: nothing(), North: nothing(), Minutes: nothing()}
}

// TestLandOfAll is for P7.4: in all truths of small flights the balloon comes down, and flies, as the chapter says, and within the bounds; all ends are reached. What fits is told from it.
func TestLandOfAll(t *testing.T) {
	d := dice(7)
	fit, not := 0, 0
	for range 300 {
		f := d.flight(2, 2, 1)
		want := landing()
		for in := range truths(f) {
			east, north, minutes := landOf(f, in)
			want.East, want.North, want.Minutes = wider(want.East, east), wider(want.North, north), wider(want.Minutes, minutes)
			a, b, c, e := kite.Play(f, in)
			if a != east || b != north || c != minutes || e != api.OK {
				t.Fatal(f, in, a, b, c, e)
			}
			fits, e := kite.Fits(f, in)
			if fits != fitsOf(f, in) || e != api.OK {
				t.Fatal(f, in, fits, e)
			}
			if fits {
				fit++
			} else {
				not++
			}
		}
		if l, e := kite.Land(f); l != want || e != api.OK {
			t.Fatal(f, l, want, e)
		}
	}
	if fit < 1000 || not < 1000 {
		t.Error("too few of a kind:", fit, not)
	}
}

// TestLandOfMany is for P7.4: whatever is true of flights of all sizes, the balloon comes down, and flies, within the bounds, and truths are shown in which all ends are reached.
func TestLandOfMany(t *testing.T) {
	d := dice(8)
	for range 1000 {
		f := d.flight(4, 8, 3)
		l, e := kite.Land(f)
		if e != api.OK {
			t.Fatal(f, e)
		}
		for range 10 {
			east, north, minutes, e := kite.Play(f, d.truth(f))
			if !has(l.East, east) || !has(l.North, north) || !has(l.Minutes, minutes) || e != api.OK {
				t.Fatal(f, l, east, north, minutes, e)
			}
		}
		got := landing()
		for speeds := range lists(f.Up, f.Down, f.Top) {
			for _, take := range []func([]api.Span) []int{bottoms, tops} {
				in := api.KiteTruth{Up: speeds[0], Down: speeds[1], Top: speeds[2], East: take(spansTo(f, false)), North: take(spansTo(f, true))}
				east, north, minutes, e := kite.Play(f, in)
				if e != api.OK {
					t.Fatal(f, in, e)
				}
				got.East, got.North, got.Minutes = wider(got.East, east), wider(got.North, north), wider(got.Minutes, minutes)
			}
		}
		if got != l {
			t.Fatal(f, l, got)
		}
	}
}
