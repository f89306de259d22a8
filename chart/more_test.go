package chart_test

import (
	"slices"
	"testing"

	"isobar/api"
	"isobar/chart"
)

// possibleMap returns a map that is possible, and has less than 12 stations.
func (d dicer) possibleMap() api.ChartMap {
	for {
		m := d.anyMap()
		if _, possible := narrowed(m); possible && len(m.Stations) < 12 {
			return m
		}
	}
}

// moreOf returns a map with a station more, which often agrees with the others.
func (d dicer) moreOf(m api.ChartMap) api.ChartMap {
	point := d.IntN(m.Wide * m.Rows)
	low := d.from(0, 99999)
	if spans, possible := narrowed(m); possible {
		low = max(0, min(99999, d.from(spans[point].Low, spans[point].High)+d.from(-m.Slope, m.Slope)/4))
	}
	return with(m, at(point, low, min(99999, low+d.from(0, 100))))
}

// TestMoreStations is for P3.8: a station more never makes bounds wider, nor a map possible that was not, nor what was sure or never so doubtful.
func TestMoreStations(t *testing.T) {
	d := dice(42)
	narrower := 0
	for range 4000 {
		m := d.possibleMap()
		more := d.moreOf(m)
		outer, _ := chart.Bounds(m)
		inner, e := chart.Bounds(more)
		if e == api.ErrRule {
			continue
		}
		if e != api.OK || len(inner) != len(outer) {
			t.Fatal(m, more, inner, e)
		}
		for point, b := range inner {
			if b.Low < outer[point].Low || b.High > outer[point].High || b.Low > b.High {
				t.Fatal(m, more, point, outer, inner)
			}
			if b != outer[point] {
				narrower++
			}
		}
		point := d.IntN(len(inner))
		level := max(1, min(99999, d.from(inner[point].Low-1, inner[point].High+1)))
		for _, high := range []bool{false, true} {
			before, _ := ask(m, point, level, high)
			if after, e := ask(more, point, level, high); e != api.OK || before != api.ChartMay && after != before {
				t.Fatal(m, more, point, level, high, before, after, e)
			}
		}
	}
	if narrower < 1000 {
		t.Error("too few bounds are narrower:", narrower)
	}
}

// TestMoreStationsTorn is for P3.8.
func TestMoreStationsTorn(t *testing.T) {
	d := dice(43)
	torn := 0
	for range 3000 {
		m := d.anyMap()
		if _, e := chart.Bounds(m); e != api.ErrRule || len(m.Stations) == 12 {
			continue
		}
		torn++
		more := d.moreOf(m)
		if b, e := chart.Bounds(more); len(b) > 0 || e != api.ErrRule {
			t.Fatal(m, more, b, e)
		}
		one, other, _ := chart.Clash(m)
		if a, b, e := chart.Clash(more); e != api.OK || a > one || a == one && b > other {
			t.Fatal(m, more, a, b, e, one, other)
		}
	}
	if torn < 200 {
		t.Error("too few maps are not possible:", torn)
	}
}

// TestStationsInAnyOrder is for P3.8.
func TestStationsInAnyOrder(t *testing.T) {
	d := dice(44)
	for range 2000 {
		m := d.anyMap()
		other := copied(m)
		d.Shuffle(len(other.Stations), func(i, j int) {
			other.Stations[i], other.Stations[j] = other.Stations[j], other.Stations[i]
		})
		a, aError := chart.Bounds(m)
		b, bError := chart.Bounds(other)
		if !slices.Equal(a, b) || aError != bError {
			t.Fatal(m, other, a, aError, b, bError)
		}
		f, _ := chart.Draw(m)
		if g, e := chart.Draw(other); !same(f, g) || e != aError {
			t.Fatal(m, other, f, g, e)
		}
		_, _, aClash := chart.Clash(m)
		if _, _, bClash := chart.Clash(other); aClash != bClash {
			t.Fatal(m, other, aClash, bClash)
		}
		point := d.IntN(m.Wide * m.Rows)
		level := 50000
		if aError == api.OK {
			level = max(1, d.from(a[point].Low, a[point].High))
		}
		for _, high := range []bool{false, true} {
			x, _ := ask(m, point, level, high)
			if y, e := ask(other, point, level, high); x != y || e != aError {
				t.Fatal(m, other, point, level, high, x, y, e)
			}
			f, fError := chart.Show(m, point, level, high)
			if g, e := chart.Show(other, point, level, high); !same(f, g) || e != fError {
				t.Fatal(m, other, point, level, high, f, fError, g, e)
			}
		}
	}
}
