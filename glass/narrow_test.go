package glass_test

import (
	"math/rand/v2"
	"testing"

	"isobar/api"
	"isobar/glass"
)

// dicer is dice that can be thrown for a span.
type dicer struct {
	*rand.Rand
}

// of returns a number of a span.
func (d *dicer) of(s api.Span) int { return from(d.Rand, s.Low, s.High) }

// narrowed returns a span that lies within another one.
func (d *dicer) narrowed(s api.Span) api.Span {
	if d.IntN(2) == 0 {
		return s
	}
	a, b := d.of(s), d.of(s)
	return span(min(a, b), max(a, b))
}

// closer returns a station and a reading of which no less is known.
func (d *dicer) closer(s api.GlassStation, r api.GlassReading) (api.GlassStation, api.GlassReading) {
	s = copied(s)
	switch d.IntN(3) {
	case 0:
		s.Checks = append(s.Checks, check(from(d.Rand, 0, 400), -2000, 2000))
		last := &s.Checks[len(s.Checks)-1]
		last.Index = part(d.Rand, -2000, 2000, 4000)
	case 1:
		s.Drift = d.IntN(s.Drift + 1)
	case 2:
		for i := range s.Checks {
			s.Checks[i].Index = d.narrowed(s.Checks[i].Index)
		}
	}
	s.Height, s.Gravity = d.narrowed(s.Height), d.narrowed(s.Gravity)
	s.Read, s.Slip = from(d.Rand, s.Read/2, s.Read), from(d.Rand, s.Slip/2, s.Slip)
	r.Attached, r.Dry, r.Wet = d.narrowed(r.Attached), d.narrowed(r.Dry), d.narrowed(r.Wet)
	return s, r
}

// TestNarrower is for P1.8.
func TestNarrower(t *testing.T) {
	d := dicer{dice(18)}
	compared := 0
	for range 6000 {
		s, r := anyStation(d.Rand, 11, 200), anyReading(d.Rand, 200)
		closer, q := d.closer(s, r)
		if _, e := glass.Index(closer, 0); e == api.ErrRule {
			continue
		}
		compared++
		b := anyReading(d.Rand, 10)
		outer, _ := glass.Know(s, r)
		inner, e := glass.Know(closer, q)
		if e != api.OK || !holds(outer.Here, inner.Here) || !holds(outer.Sea, inner.Sea) || !holds(outer.Humid, inner.Humid) {
			t.Fatal(s, r, closer, q, outer, inner, e)
		}
		outerRise, _ := glass.Rise(s, r, b)
		if rise, e := glass.Rise(closer, q, b); e != api.OK || !holds(outerRise, rise) {
			t.Fatal(s, r, closer, q, b, outerRise, rise, e)
		}
		for day := 0; day <= 400; day += 1 + d.IntN(20) {
			outer, _ := glass.Index(s, day)
			if inner, e := glass.Index(closer, day); e != api.OK || !holds(outer, inner) {
				t.Fatal(s, closer, day, outer, inner, e)
			}
		}
		width := d.IntN(400)
		dayOuter, eOuter := glass.Due(s, 0, width)
		dayInner, eInner := glass.Due(closer, 0, width)
		if eOuter == api.ErrNone && eInner != api.ErrNone || eInner == api.OK && dayInner < dayOuter {
			t.Fatal(s, closer, width, dayOuter, eOuter, dayInner, eInner)
		}
		minutesInner(t, s, closer, r, q)
	}
	if compared < 1000 {
		t.Error("too few stations were compared:", compared)
	}
}

// minutesInner checks that each minute of a reading of which more is known is one of the reading of which less is known.
func minutesInner(t *testing.T, s, closer api.GlassStation, r, q api.GlassReading) {
	outer, _ := glass.When(s, r)
	inner, e := glass.When(closer, q)
	if e != api.OK || len(inner) == 0 {
		t.Fatal(closer, q, inner, e)
	}
	for _, x := range inner {
		found := false
		for _, y := range outer {
			found = found || holds(y, x)
		}
		if !found {
			t.Fatal(s, r, closer, q, outer, inner)
		}
	}
}
