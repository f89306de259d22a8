package kite_test

import (
	"math"
	"slices"
	"testing"

	"isobar/api"
	"isobar/kite"
)

// TestNarrowerKites is for P7.7: spans of a kite that lie within others never make the bounds of its height wider.
func TestNarrowerKites(t *testing.T) {
	d := dice(20)
	narrow := 0
	for range 3000 {
		k := d.line(d.among(10, 10000), d.among(5, 90), d.among(10, 1000))
		n := api.KiteLine{Wire: d.part(k.Wire), Angle: d.part(k.Angle), Sag: d.part(k.Sag)}
		wide, e1 := kite.Height(k)
		near, e2 := kite.Height(n)
		if e1 != api.OK || e2 != api.OK || !inside(near, wide) {
			t.Fatal(k, n, wide, near, e1, e2)
		}
		if near != wide {
			narrow++
		}
	}
	if narrow < 1000 {
		t.Error("too few are narrower:", narrow)
	}
}

// aboveOr returns what Above does, with a number that is greater than that of any mark for none.
func aboveOr(t *testing.T, r api.KiteTrace, height int) (int, int) {
	t.Helper()
	can, surely, e := kite.Above(r, height)
	if e == api.ErrNone {
		return math.MaxInt, math.MaxInt
	}
	if e != api.OK {
		t.Fatal(r, height, e)
	}
	if surely < 0 {
		surely = math.MaxInt
	}
	return can, surely
}

// TestNarrowerTraces is for P7.7: spans of a trace that lie within others never make the bounds of heights wider, nor what is above less known.
func TestNarrowerTraces(t *testing.T) {
	d := dice(21)
	narrow, told := 0, 0
	for range 3000 {
		r := d.trace(8, d.among(10, 500, 2000))
		n := copyTrace(r)
		n.Base = d.part(r.Base)
		for i, m := range r.Marks {
			n.Marks[i].Temp = d.part(m.Temp)
		}
		wide, e1 := kite.Levels(r)
		near, e2 := kite.Levels(n)
		if e1 != api.OK || e2 != api.OK {
			t.Fatal(r, n, e1, e2)
		}
		for i := range wide {
			if !inside(near[i], wide[i]) {
				t.Fatal(r, n, wide, near)
			}
		}
		if !slices.Equal(near, wide) {
			narrow++
		}
		height := d.of(wide[d.IntN(len(wide))])
		can, surely := aboveOr(t, r, height)
		later, sooner := aboveOr(t, n, height)
		if later < can || sooner > surely {
			t.Fatal(r, n, height, can, surely, later, sooner)
		}
		if later > can || sooner < surely {
			told++
		}
	}
	if narrow < 1000 || told < 300 {
		t.Error("too few are narrower:", narrow, told)
	}
}

// TestHigher is for P7.3: no mark is above a height that is not above a lower one.
func TestHigher(t *testing.T) {
	d := dice(22)
	for range 1000 {
		r := d.trace(8, d.among(10, 500, 2000))
		height := d.from(-7000, 40000)
		can, surely := aboveOr(t, r, height)
		later, last := aboveOr(t, r, height+d.IntN(3000))
		if later < can || last < surely || can > surely {
			t.Fatal(r, height, can, surely, later, last)
		}
	}
}

// narrower returns a flight of which some spans lie within those of another one: those of what the finder found, or all.
func (d dicer) narrower(f api.KiteFlight, all bool) api.KiteFlight {
	f = copyFlight(f)
	f.East, f.North, f.Minutes = d.part(f.East), d.part(f.North), d.part(f.Minutes)
	if !all {
		return f
	}
	f.Up, f.Down, f.Top = d.part(f.Up), d.part(f.Down), d.part(f.Top)
	for i, l := range f.Layers {
		f.Layers[i].East, f.Layers[i].North = d.part(l.East), d.part(l.North)
	}
	return f
}

// insideWinds reports whether what is known of winds lies within what is known of others.
func insideWinds(a, b api.KiteWinds) bool {
	for i := range a.East {
		if !inside(a.East[i], b.East[i]) || !inside(a.North[i], b.North[i]) {
			return false
		}
	}
	return inside(a.Top, b.Top)
}

// TestNarrowerFlights is for P7.7: spans of a flight that lie within others, and what a finder found more closely, never make wider what is known; nor is a truth first that was not before.
func TestNarrowerFlights(t *testing.T) {
	d := dice(23)
	narrow, never := 0, 0
	for i := range 4000 {
		f := d.flight(4, 5, 3)
		n := d.narrower(f, i%2 == 0)
		was, e1 := kite.Land(f)
		is, e2 := kite.Land(n)
		if e1 != api.OK || e2 != api.OK || !inside(is.East, was.East) || !inside(is.North, was.North) || !inside(is.Minutes, was.Minutes) || i%2 == 1 && is != was {
			t.Fatal(f, n, was, is, e1, e2)
		}
		wide, e1 := kite.Winds(f)
		near, e2 := kite.Winds(n)
		first, _ := kite.First(f)
		later, _ := kite.First(n)
		switch {
		case e2 == api.ErrRule:
			never++
		case e1 != api.OK || e2 != api.OK || !insideWinds(near, wide) || slices.Compare(flat(later), flat(first)) < 0:
			t.Fatal(f, n, wide, near, first, later, e1, e2)
		case !sameWinds(wide, near):
			narrow++
		}
	}
	if narrow < 400 || never < 50 {
		t.Error("too few of a kind:", narrow, never)
	}
}

// TestFoundExactly is for P7.7 and P7.5: what is known of a flight is what all places at which it can have been found leave together.
func TestFoundExactly(t *testing.T) {
	d := dice(24)
	some := 0
	for range 150 {
		f := d.flight(2, 3, 1)
		f.East.High, f.North.High = min(f.East.High, f.East.Low+6), min(f.North.High, f.North.Low+6)
		wide, e := kite.Winds(f)
		got := noWinds(len(f.Layers))
		found := false
		for at := range lists(f.East, f.North) {
			n := copyFlight(f)
			n.East, n.North = span(at[0], at[0]), span(at[1], at[1])
			w, err := kite.Winds(n)
			if err != api.OK {
				continue
			}
			found = true
			got.Top = wider(wider(got.Top, w.Top.Low), w.Top.High)
			for i := range f.Layers {
				got.East[i] = wider(wider(got.East[i], w.East[i].Low), w.East[i].High)
				got.North[i] = wider(wider(got.North[i], w.North[i].Low), w.North[i].High)
			}
		}
		if found != (e == api.OK) || found && !sameWinds(got, wide) {
			t.Fatal(f, got, wide, e)
		}
		if found {
			some++
		}
	}
	if some < 75 {
		t.Error("too few are possible:", some)
	}
}

// turned returns a span with the signs of its numbers changed.
func turned(s api.Span) api.Span { return span(-s.High, -s.Low) }

// TestTurned is for P7.4, P7.5 and P7.6: a flight with the directions exchanged, and one to the west, have the same winds and landings, exchanged and with other signs.
func TestTurned(t *testing.T) {
	d := dice(25)
	for range 500 {
		f := d.flight(4, 5, 2)
		other := copyFlight(f)
		other.East, other.North = f.North, turned(f.East)
		for i, l := range f.Layers {
			other.Layers[i].East, other.Layers[i].North = l.North, turned(l.East)
		}
		a, _ := kite.Land(f)
		b, _ := kite.Land(other)
		if b != (api.KiteLanding{East: a.North, North: turned(a.East), Minutes: a.Minutes}) {
			t.Fatal(f, a, b)
		}
		w, e1 := kite.Winds(f)
		v, e2 := kite.Winds(other)
		if e1 != e2 || w.Top != v.Top || !slices.Equal(w.North, v.East) {
			t.Fatal(f, w, v, e1, e2)
		}
		for i := range w.East {
			if turned(w.East[i]) != v.North[i] {
				t.Fatal(f, w, v)
			}
		}
		first, _ := kite.First(f)
		if second, _ := kite.First(other); first.Up != second.Up || first.Down != second.Down || first.Top != second.Top || !slices.Equal(first.North, second.East) {
			t.Fatal(f, first, second)
		}
	}
}
