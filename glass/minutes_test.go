package glass_test

import (
	"slices"
	"testing"

	"isobar/api"
	"isobar/glass"
)

// TestWhenExamples is for P1.6.
func TestWhenExamples(t *testing.T) {
	for i, x := range []struct {
		clock      api.GlassClock
		east, slip int
		want       []api.Span
	}{
		{api.GlassRail, 30, 2, []api.Span{span(29278, 29282)}},
		{api.GlassRail, -720, 0, []api.Span{span(29280, 29280)}},
		{api.GlassSun, 30, 2, []api.Span{span(29248, 29252)}},
		{api.GlassSun, -30, 60, []api.Span{span(29250, 29370)}},
		{api.GlassEither, 30, 2, []api.Span{span(29248, 29252), span(29278, 29282)}},
		{api.GlassEither, -30, 2, []api.Span{span(29278, 29282), span(29308, 29312)}},
		// one minute is missing between the spans, or none, or they have minutes in common
		{api.GlassEither, 6, 2, []api.Span{span(29272, 29276), span(29278, 29282)}},
		{api.GlassEither, 5, 2, []api.Span{span(29273, 29282)}},
		{api.GlassEither, 4, 2, []api.Span{span(29274, 29282)}},
		{api.GlassEither, -6, 2, []api.Span{span(29278, 29282), span(29284, 29288)}},
		{api.GlassEither, -5, 2, []api.Span{span(29278, 29287)}},
		{api.GlassEither, 0, 0, []api.Span{span(29280, 29280)}},
		{api.GlassEither, 1, 0, []api.Span{span(29279, 29280)}},
		{api.GlassEither, 2, 0, []api.Span{span(29278, 29278), span(29280, 29280)}},
	} {
		s, r := station(), firstReading()
		s.East, s.Slip, r.Clock = x.east, x.slip, x.clock
		if l, e := glass.When(s, r); e != api.OK || !slices.Equal(l, x.want) {
			t.Error(i, l, e)
		}
		// comparisons that do not agree tell nothing of clocks
		s.Checks = torn().Checks
		if l, e := glass.When(s, r); e != api.OK || !slices.Equal(l, x.want) {
			t.Error(i, l, e)
		}
	}
	slow := station()
	slow.Slip = 15
	if l, e := glass.When(slow, laterReading()); e != api.OK || !slices.Equal(l, []api.Span{span(36435, 36495)}) {
		t.Error(l, e)
	}
	// the sun's clock, before the first minute of all
	first := firstReading()
	first.Day, first.Minute = 0, 0
	if l, e := glass.When(station(), first); e != api.OK || !slices.Equal(l, []api.Span{span(-32, -28)}) {
		t.Error(l, e)
	}
	for i, s := range wrongStations() {
		if l, e := glass.When(s, firstReading()); e != api.ErrArg || len(l) != 0 {
			t.Error(i, l, e)
		}
	}
	for i, r := range wrongReadings() {
		if l, e := glass.When(station(), r); e != api.ErrArg || len(l) != 0 {
			t.Error(i, l, e)
		}
	}
}

// TestWhenTried is for P1.6: it goes through all that the clock can have been.
func TestWhenTried(t *testing.T) {
	d := dice(16)
	for i := range 3000 {
		s, r := anyStation(d, 0, 0), anyReading(d, 0)
		if i%2 == 0 {
			s.East = from(d, -130, 130)
		}
		minutes := map[int]bool{}
		for wrong := -s.Slip; wrong <= s.Slip; wrong++ {
			if r.Clock != api.GlassSun {
				minutes[1440*r.Day+r.Minute+wrong] = true
			}
			if r.Clock != api.GlassRail {
				minutes[1440*r.Day+r.Minute-s.East+wrong] = true
			}
		}
		l, e := glass.When(s, r)
		if e != api.OK {
			t.Fatal(s, r, e)
		}
		count := 0
		for j, x := range l {
			if j > 0 && x.Low <= l[j-1].High+1 {
				t.Fatal(s, r, l)
			}
			for minute := x.Low; minute <= x.High; minute++ {
				if !minutes[minute] {
					t.Fatal(s, r, l, minute)
				}
				count++
			}
		}
		if count != len(minutes) {
			t.Fatal(s, r, l, count, len(minutes))
		}
	}
}
