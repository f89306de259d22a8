package glass_test

import (
	"math/big"
	"testing"

	"isobar/api"
	"isobar/glass"
)

// down returns a product divided by a number that is greater than 0, rounded down.
func down(by int, factors ...int) int {
	product := big.NewInt(1)
	for _, f := range factors {
		product.Mul(product, big.NewInt(int64(f)))
	}
	// Div leaves a remainder that is not less than 0.
	return int(product.Div(product, big.NewInt(int64(by))).Int64())
}

// canHold returns what air can hold at a temperature.
func canHold(temperature int) int {
	table := map[int]int{
		-300: 38, -250: 61, -200: 96, -150: 144, -100: 216, -50: 316, 0: 458, 50: 654, 100: 921,
		150: 1279, 200: 1753, 250: 2376, 300: 3182, 350: 4218, 400: 5532, 450: 7188, 500: 9251,
	}
	lower := temperature
	for table[lower] == 0 {
		lower--
	}
	if lower == temperature {
		return table[lower]
	}
	return table[lower] + down(50, table[lower+50]-table[lower], temperature-lower)
}

// worked returns the weather of a reading in truth, step by step as in the chapter.
func worked(r api.GlassReading, x api.GlassTruth) api.GlassWeather {
	mercury := r.Mercury - x.Index - x.Error
	left := mercury - down(10000000, mercury, x.Attached, 163)
	here := left + down(1000000, left, x.Gravity)
	sea := here + down(79900+29*x.Dry, here, x.Height, 10)
	bulb := min(x.Wet, x.Dry)
	vapour := max(0, canHold(bulb)-down(100000, here, x.Dry-bulb, 8))
	return api.GlassWeather{Here: here, Sea: sea, Humid: down(canHold(x.Dry), 100, vapour)}
}

// plain returns a station at the sea whose barometer has no index, and a reading of it with some temperatures, and the truth.
func plain(attached, dry, wet int) (api.GlassStation, api.GlassReading, api.GlassTruth) {
	s := api.GlassStation{Checks: []api.GlassCheck{check(0, 0, 0)}}
	r := api.GlassReading{
		Clock: api.GlassRail, Mercury: 75000,
		Attached: span(attached, attached), Dry: span(dry, dry), Wet: span(wet, wet),
	}
	return s, r, api.GlassTruth{Attached: attached, Dry: dry, Wet: wet}
}

// TestPlayExamples is for P1.4.
func TestPlayExamples(t *testing.T) {
	if w, e := glass.Play(station(), firstReading(), chapterTruth()); e != api.OK || w != (api.GlassWeather{Here: 74779, Sea: 75710, Humid: 68}) {
		t.Error(w, e)
	}
	for i, x := range []struct {
		attached, dry, wet int
		want               api.GlassWeather
	}{
		{0, 0, 0, api.GlassWeather{Here: 75000, Sea: 75000, Humid: 100}},
		// 122.25 are subtracted, or -122.25, which is rounded down to -123
		{100, 0, 0, api.GlassWeather{Here: 74878, Sea: 74878, Humid: 100}},
		{-100, 0, 0, api.GlassWeather{Here: 75123, Sea: 75123, Humid: 100}},
		// 458 less 300, of 654
		{0, 50, 0, api.GlassWeather{Here: 75000, Sea: 75000, Humid: 24}},
		// 96 less 300 are no vapour
		{0, -150, -200, api.GlassWeather{Here: 75000, Sea: 75000, Humid: 0}},
		// a wet bulb above the dry one counts as the dry one
		{0, 200, 201, api.GlassWeather{Here: 75000, Sea: 75000, Humid: 100}},
		{0, -300, 500, api.GlassWeather{Here: 75000, Sea: 75000, Humid: 100}},
		{0, 500, -300, api.GlassWeather{Here: 75000, Sea: 75000, Humid: 0}},
		{0, 500, 500, api.GlassWeather{Here: 75000, Sea: 75000, Humid: 100}},
		// at 499 air can hold 7188 + 2063 * 49 / 50, which are 9209; less 6 are 9203, of 9251
		{0, 500, 499, api.GlassWeather{Here: 75000, Sea: 75000, Humid: 99}},
	} {
		s, r, truth := plain(x.attached, x.dry, x.wet)
		if w, e := glass.Play(s, r, truth); e != api.OK || w != x.want {
			t.Error(i, w, e)
		}
		known := api.GlassKnown{Here: span(x.want.Here, x.want.Here), Sea: span(x.want.Sea, x.want.Sea), Humid: span(x.want.Humid, x.want.Humid)}
		if k, e := glass.Know(s, r); e != api.OK || k != known {
			t.Error(i, k, e)
		}
	}
}

// TestPlayErrors is for P1.4.
func TestPlayErrors(t *testing.T) {
	none := api.GlassWeather{}
	for i, s := range wrongStations() {
		if w, e := glass.Play(s, firstReading(), chapterTruth()); e != api.ErrArg || w != none {
			t.Error(i, w, e)
		}
		if k, e := glass.Know(s, firstReading()); e != api.ErrArg || k != (api.GlassKnown{}) {
			t.Error(i, k, e)
		}
	}
	for i, r := range wrongReadings() {
		for _, s := range []api.GlassStation{station(), torn()} {
			if w, e := glass.Play(s, r, chapterTruth()); e != api.ErrArg || w != none {
				t.Error(i, w, e)
			}
			if k, e := glass.Know(s, r); e != api.ErrArg || k != (api.GlassKnown{}) {
				t.Error(i, k, e)
			}
		}
	}
	for i, spoil := range []func(*api.GlassTruth){
		func(x *api.GlassTruth) { x.Index = 14 },
		func(x *api.GlassTruth) { x.Index = 41 },
		func(x *api.GlassTruth) { x.Error = -6 },
		func(x *api.GlassTruth) { x.Error = 6 },
		func(x *api.GlassTruth) { x.Gravity = -101 },
		func(x *api.GlassTruth) { x.Gravity = 101 },
		func(x *api.GlassTruth) { x.Height = 99 },
		func(x *api.GlassTruth) { x.Height = 111 },
		func(x *api.GlassTruth) { x.Attached = 199 },
		func(x *api.GlassTruth) { x.Attached = 211 },
		func(x *api.GlassTruth) { x.Dry = 149 },
		func(x *api.GlassTruth) { x.Dry = 153 },
		func(x *api.GlassTruth) { x.Wet = 119 },
		func(x *api.GlassTruth) { x.Wet = 122 },
	} {
		x := chapterTruth()
		spoil(&x)
		if w, e := glass.Play(station(), firstReading(), x); e != api.ErrArg || w != none {
			t.Error(i, w, e)
		}
		// comparisons that do not agree are noticed before the truth is
		if w, e := glass.Play(torn(), firstReading(), x); e != api.ErrRule || w != none {
			t.Error(i, w, e)
		}
	}
	if k, e := glass.Know(torn(), firstReading()); e != api.ErrRule || k != (api.GlassKnown{}) {
		t.Error(k, e)
	}
}

// TestPlayTemperatures is for P1.4: it goes through all temperatures.
func TestPlayTemperatures(t *testing.T) {
	for temperature := -300; temperature <= 500; temperature++ {
		for _, less := range []int{0, 1, 9, 30, 75} {
			s, r, truth := plain(temperature, temperature, max(-300, temperature-less))
			if w, e := glass.Play(s, r, truth); e != api.OK || w != worked(r, truth) {
				t.Fatal(temperature, less, w, e, worked(r, truth))
			}
		}
	}
}

// anyTruth returns a truth of a reading, of a station with some bounds of the index.
func anyTruth(d *dicer, s api.GlassStation, r api.GlassReading, index api.Span) api.GlassTruth {
	return api.GlassTruth{
		Index: d.of(index), Error: d.of(span(-s.Read, s.Read)), Gravity: d.of(s.Gravity), Height: d.of(s.Height),
		Attached: d.of(r.Attached), Dry: d.of(r.Dry), Wet: d.of(r.Wet),
	}
}

// widen makes the bounds of what is known wide enough for a weather; nil has no bounds yet.
func widen(k *api.GlassKnown, w api.GlassWeather) *api.GlassKnown {
	if k == nil {
		return &api.GlassKnown{Here: span(w.Here, w.Here), Sea: span(w.Sea, w.Sea), Humid: span(w.Humid, w.Humid)}
	}
	k.Here = span(min(k.Here.Low, w.Here), max(k.Here.High, w.Here))
	k.Sea = span(min(k.Sea.Low, w.Sea), max(k.Sea.High, w.Sea))
	k.Humid = span(min(k.Humid.Low, w.Humid), max(k.Humid.High, w.Humid))
	return k
}

// everyTruth calls a function with all truths of a reading.
func everyTruth(s api.GlassStation, r api.GlassReading, index api.Span, each func(api.GlassTruth)) {
	spans := []api.Span{index, span(-s.Read, s.Read), s.Gravity, s.Height, r.Attached, r.Dry, r.Wet}
	values := make([]int, len(spans))
	var fill func(int)
	fill = func(at int) {
		if at == len(spans) {
			each(api.GlassTruth{
				Index: values[0], Error: values[1], Gravity: values[2], Height: values[3],
				Attached: values[4], Dry: values[5], Wet: values[6],
			})
			return
		}
		for n := spans[at].Low; n <= spans[at].High; n++ {
			values[at] = n
			fill(at + 1)
		}
	}
	fill(0)
}

// TestKnowExamples is for P1.4.
func TestKnowExamples(t *testing.T) {
	want := api.GlassKnown{Here: span(74741, 74803), Sea: span(75627, 75779), Humid: span(67, 70)}
	if k, e := glass.Know(station(), firstReading()); e != api.OK || k != want {
		t.Error(k, e)
	}
	// spans of the wet bulb and the dry one that overlap
	s, r, _ := plain(0, 0, 0)
	r.Dry, r.Wet = span(-10, 50), span(0, 20)
	if k, e := glass.Know(s, r); e != api.OK || k.Humid != span(24, 100) {
		t.Error(k, e)
	}
	// 80000 times 799 times 10, divided by 79900, are 8000; a gravity of -1 takes 1
	high := api.GlassStation{Height: span(799, 799), Gravity: span(-1, 1), Checks: []api.GlassCheck{check(0, 0, 0)}}
	if k, e := glass.Know(high, api.GlassReading{Clock: api.GlassRail, Mercury: 80000}); e != api.OK || k.Here != span(79999, 80000) || k.Sea != span(87998, 88000) {
		t.Error(k, e)
	}
}

// TestKnowTried is for P1.4: it tries all truths of readings whose spans are narrow.
func TestKnowTried(t *testing.T) {
	d := dicer{dice(14)}
	tried := 0
	for range 400 {
		s, r := anyStation(d.Rand, 6, 2), anyReading(d.Rand, 2)
		s.Drift, s.Read = 0, min(s.Read, 1)
		if d.IntN(2) == 0 {
			r.Wet = part(d.Rand, max(-300, r.Dry.Low-10), min(500, r.Dry.High+3), 2)
		}
		days, agree := walked(s)
		index := days[r.Day]
		if !agree || index.High-index.Low > 4 {
			continue
		}
		tried++
		var want *api.GlassKnown
		everyTruth(s, r, index, func(x api.GlassTruth) { want = widen(want, worked(r, x)) })
		if k, e := glass.Know(s, r); e != api.OK || k != *want {
			t.Fatal(s, r, k, e, *want)
		}
	}
	if tried < 50 {
		t.Error("too few readings were tried:", tried)
	}
}

// corners returns the widest bounds of the weathers in which all of a truth is at one of its ends.
func corners(s api.GlassStation, r api.GlassReading, index api.Span) api.GlassKnown {
	var k *api.GlassKnown
	for bits := range 1 << 7 {
		at := func(i int, of api.Span) int {
			if bits>>i&1 == 0 {
				return of.Low
			}
			return of.High
		}
		k = widen(k, worked(r, api.GlassTruth{
			Index: at(0, index), Error: at(1, span(-s.Read, s.Read)), Gravity: at(2, s.Gravity), Height: at(3, s.Height),
			Attached: at(4, r.Attached), Dry: at(5, r.Dry), Wet: at(6, r.Wet),
		}))
	}
	return *k
}

// TestKnowWide is for P1.4: its ends are reached in truths, and whatever is true lies within them.
func TestKnowWide(t *testing.T) {
	d := dicer{dice(24)}
	for i := range 1500 {
		wide := []int{5, 60, 4000}[i%3]
		s, r := anyStation(d.Rand, 4, wide), anyReading(d.Rand, wide)
		if d.IntN(2) == 0 {
			r.Wet = part(d.Rand, max(-300, r.Dry.Low-100), r.Dry.High, wide)
		}
		days, agree := walked(s)
		k, e := glass.Know(s, r)
		if !agree || e != api.OK || k != corners(s, r, days[r.Day]) {
			t.Fatal(s, r, k, e, agree)
		}
		for range 100 {
			x := anyTruth(&d, s, r, days[r.Day])
			w, e := glass.Play(s, r, x)
			if e != api.OK || w != worked(r, x) {
				t.Fatal(s, r, x, w, e, worked(r, x))
			}
			if !holds(k.Here, span(w.Here, w.Here)) || !holds(k.Sea, span(w.Sea, w.Sea)) || !holds(k.Humid, span(w.Humid, w.Humid)) {
				t.Fatal(s, r, x, w, k)
			}
		}
	}
}
