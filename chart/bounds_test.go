package chart_test

import (
	"slices"
	"testing"

	"isobar/api"
	"isobar/chart"
)

// TestCheck is for P3.1.
func TestCheck(t *testing.T) {
	widest := api.ChartMap{Wide: 6, Rows: 5, Slope: 5000, Stations: slices.Repeat([]api.ChartStation{at(0, 0, 99999), at(29, 99999, 99999)}, 6)}
	for i, m := range []api.ChartMap{mapM(), mapN(), torn(), widest, {Wide: 1, Rows: 1}, {Wide: 1, Rows: 5, Stations: []api.ChartStation{at(4, 0, 0)}}, {Wide: 6, Rows: 1, Stations: []api.ChartStation{}}} {
		if e := chart.Check(m); e != api.OK {
			t.Error(i, e)
		}
	}
	for i, m := range wrongMaps() {
		if e := chart.Check(m); e != api.ErrArg {
			t.Error(i, e)
		}
	}
}

// TestBoundsExamples is for P3.1.
func TestBoundsExamples(t *testing.T) {
	for i, x := range []struct {
		m    api.ChartMap
		want []api.Span
		e    api.Errno
	}{
		{mapM(), []api.Span{
			span(76000, 76010), span(75900, 75970), span(75800, 76070), span(75830, 76170),
			span(75900, 75970), span(75850, 75870), span(75830, 75970), span(75930, 76070),
			span(75800, 76070), span(75830, 75970), span(75930, 76070), span(76030, 76050),
		}, api.OK},
		{api.ChartMap{Wide: 2, Rows: 1}, []api.Span{span(0, 99999), span(0, 99999)}, api.OK},
		{api.ChartMap{Wide: 1, Rows: 2, Slope: 3, Stations: []api.ChartStation{at(1, 2, 99998)}}, []api.Span{span(0, 99999), span(2, 99998)}, api.OK},
		{api.ChartMap{Wide: 1, Rows: 3, Stations: []api.ChartStation{at(0, 5, 9), at(2, 7, 20)}}, []api.Span{span(7, 9), span(7, 9), span(7, 9)}, api.OK},
		// several stations at one point, and one beside it, which narrows none of them
		{api.ChartMap{Wide: 3, Rows: 1, Slope: 10, Stations: []api.ChartStation{at(1, 40, 60), at(1, 50, 70), at(0, 45, 65)}}, []api.Span{span(45, 65), span(50, 60), span(40, 70)}, api.OK},
		// two stations that just agree
		{api.ChartMap{Wide: 3, Rows: 1, Slope: 10, Stations: []api.ChartStation{at(0, 10, 20), at(2, 40, 50)}}, []api.Span{span(20, 20), span(30, 30), span(40, 40)}, api.OK},
		{api.ChartMap{Wide: 3, Rows: 1, Slope: 10, Stations: []api.ChartStation{at(0, 10, 20), at(2, 41, 50)}}, nil, api.ErrRule},
		{torn(), nil, api.ErrRule},
	} {
		if b, e := chart.Bounds(x.m); !slices.Equal(b, x.want) || e != x.e {
			t.Error(i, b, e)
		}
	}
	for i, m := range wrongMaps() {
		if b, e := chart.Bounds(m); len(b) > 0 || e != api.ErrArg {
			t.Error(i, b, e)
		}
		if f, e := chart.Draw(m); !isNone(f) || e != api.ErrArg {
			t.Error(i, f, e)
		}
	}
}

// TestFits is for P3.1.
func TestFits(t *testing.T) {
	n := mapN()
	for i, x := range []struct {
		m    api.ChartMap
		f    api.ChartField
		want bool
	}{
		{mapM(), drawnM(), true},
		{n, field(3, 75950, 75900, 75950, 75900, 75800, 75900, 75950, 75900, 75950), true},
		{n, field(3, 75950, 75901, 75950, 75900, 75800, 75900, 75950, 75900, 75950), false},
		{n, field(3, 75950, 75900, 75950, 75900, 75810, 75900, 75950, 75900, 75950), true},
		{n, field(3, 75950, 75900, 75950, 75900, 75811, 75900, 75950, 75900, 75950), false},
		{n, field(3, 75950, 75900, 75950, 75900, 75800, 75900, 75950, 75900, 75949), false},
		{n, field(3, 75950, 75900, 75950, 75900, 75800, 75900), false},
		{n, field(3, 75950, 75900, 75950, 75900, 75800, 75900, 75950, 75900, 75950, 75900, 75900, 75900), false},
		{n, field(1, 75950), false},
		// of another size, but with as many points
		{mapM(), field(3, drawnM().Values...), false},
		{mapM(), field(6, drawnM().Values...), false},
		{api.ChartMap{Wide: 2, Rows: 1}, field(2, 7, 7), true},
		{api.ChartMap{Wide: 2, Rows: 1}, field(2, 7, 8), false},
		{api.ChartMap{Wide: 2, Rows: 1}, field(1, 7, 7), false},
		// the end of a row is no neighbour of the beginning of the next one
		{api.ChartMap{Wide: 2, Rows: 2, Slope: 1}, field(2, 7, 8, 6, 7), true},
		{api.ChartMap{Wide: 3, Rows: 2, Slope: 1}, field(3, 7, 8, 9, 6, 7, 8), true},
		{api.ChartMap{Wide: 3, Rows: 2, Slope: 1}, field(3, 7, 8, 9, 6, 6, 8), false},
		{torn(), drawnM(), false},
	} {
		if is, e := chart.Fits(x.m, x.f); is != x.want || e != api.OK {
			t.Error(i, is, e)
		}
	}
	for i, m := range wrongMaps() {
		if is, e := chart.Fits(m, drawnM()); is || e != api.ErrArg {
			t.Error(i, is, e)
		}
	}
	for i, f := range wrongFields() {
		if is, e := chart.Fits(mapM(), f); is || e != api.ErrArg {
			t.Error(i, is, e)
		}
		if is, e := chart.Fits(api.ChartMap{Wide: 1, Rows: 1}, f); is || e != api.ErrArg {
			t.Error(i, is, e)
		}
	}
}

// TestClashExamples is for P3.2.
func TestClashExamples(t *testing.T) {
	row := func(stations ...api.ChartStation) api.ChartMap {
		return api.ChartMap{Wide: 6, Rows: 1, Slope: 10, Stations: stations}
	}
	for i, x := range []struct {
		m          api.ChartMap
		one, other int
		e          api.Errno
	}{
		{mapM(), 0, 0, api.ErrNone},
		{mapM(at(0, 76071, 76080)), 0, 3, api.OK},
		{mapM(at(1, 76000, 76080)), 1, 3, api.OK},
		{api.ChartMap{Wide: 4, Rows: 3, Slope: 100, Stations: []api.ChartStation{at(0, 76071, 76080), at(5, 75850, 75870)}}, 0, 1, api.OK},
		{api.ChartMap{Wide: 4, Rows: 3, Slope: 100, Stations: []api.ChartStation{at(0, 76070, 76080), at(5, 75850, 75870)}}, 0, 0, api.ErrNone},
		{row(), 0, 0, api.ErrNone},
		{row(at(3, 5, 5)), 0, 0, api.ErrNone},
		{row(at(3, 5, 5), at(3, 5, 9)), 0, 0, api.ErrNone},
		{row(at(3, 5, 5), at(3, 6, 9)), 0, 1, api.OK},
		{row(at(3, 6, 9), at(3, 5, 5)), 0, 1, api.OK},
		{row(at(0, 0, 10), at(5, 60, 70)), 0, 0, api.ErrNone},
		{row(at(0, 0, 10), at(5, 61, 70)), 0, 1, api.OK},
		{row(at(5, 61, 70), at(0, 0, 10)), 0, 1, api.OK},
		// the pair with the least lesser number, not the one that is found first from the end, or whose greater number is least
		{row(at(0, 50, 50), at(1, 50, 50), at(1, 80, 80), at(0, 90, 90)), 0, 2, api.OK},
		{row(at(0, 50, 55), at(1, 60, 65), at(1, 80, 80), at(0, 76, 90)), 0, 2, api.OK},
		{row(at(5, 50, 99), at(1, 60, 65), at(1, 80, 80), at(0, 90, 90)), 1, 2, api.OK},
		{row(at(0, 50, 50), at(1, 55, 55), at(2, 45, 45), at(3, 81, 90)), 0, 3, api.OK},
	} {
		if one, other, e := chart.Clash(x.m); one != x.one || other != x.other || e != x.e {
			t.Error(i, one, other, e)
		}
	}
	for i, m := range wrongMaps() {
		if one, other, e := chart.Clash(m); one != 0 || other != 0 || e != api.ErrArg {
			t.Error(i, one, other, e)
		}
	}
}

// firstClash returns the first two stations of a map that leave no field if they are alone.
func firstClash(m api.ChartMap) (int, int, api.Errno) {
	for i := range m.Stations {
		for j := i + 1; j < len(m.Stations); j++ {
			two := m
			two.Stations = []api.ChartStation{m.Stations[i], m.Stations[j]}
			if _, possible := narrowed(two); !possible {
				return i, j, api.OK
			}
		}
	}
	return 0, 0, api.ErrNone
}

// TestFieldsTried is for P3.1, P3.2 and P3.3: all fields of small maps are gone through.
func TestFieldsTried(t *testing.T) {
	d := dice(31)
	impossible, fields := 0, 0
	for range 600 {
		m := d.smallMap()
		var want []api.Span
		tried := 0
		for f := range allFields(m) {
			tried++
			if tried > 20000 {
				break
			}
			if is, e := chart.Fits(m, f); !is || e != api.OK {
				t.Fatal(m, f, is, e)
			}
			for point, value := range f.Values {
				if tried == 1 {
					want = append(want, span(value, value))
				}
				want[point] = span(min(want[point].Low, value), max(want[point].High, value))
			}
		}
		if tried > 20000 {
			continue
		}
		fields += tried
		b, e := chart.Bounds(m)
		drawn, drawnError := chart.Draw(m)
		_, _, clashError := chart.Clash(m)
		if tried == 0 {
			impossible++
			if len(b) > 0 || e != api.ErrRule || !isNone(drawn) || drawnError != api.ErrRule || clashError != api.OK {
				t.Fatal(m, b, e, drawn, drawnError, clashError)
			}
			continue
		}
		if !slices.Equal(b, want) || e != api.OK || drawnError != api.OK || !isField(m, drawn) || clashError != api.ErrNone {
			t.Fatal(m, b, e, want, drawn, drawnError, clashError)
		}
	}
	if impossible < 30 || fields < 100000 {
		t.Error("the maps are not mixed enough:", impossible, fields)
	}
}

// TestBoundsNarrowed is for P3.1, P3.2 and P3.3, with maps of all sizes.
func TestBoundsNarrowed(t *testing.T) {
	d := dice(32)
	impossible := 0
	for range 3000 {
		m := d.anyMap()
		want, possible := narrowed(m)
		wantOne, wantOther, wantError := firstClash(m)
		if one, other, e := chart.Clash(m); one != wantOne || other != wantOther || e != wantError || possible != (e == api.ErrNone) {
			t.Fatal(m, one, other, e, wantOne, wantOther, wantError, possible)
		}
		b, e := chart.Bounds(m)
		f, drawnError := chart.Draw(m)
		if !possible {
			impossible++
			if len(b) > 0 || e != api.ErrRule || !isNone(f) || drawnError != api.ErrRule {
				t.Fatal(m, b, e, f, drawnError)
			}
			continue
		}
		if !slices.Equal(b, want) || e != api.OK || drawnError != api.OK {
			t.Fatal(m, b, e, want, drawnError)
		}
		least, greatest, middle := field(m.Wide), field(m.Wide), field(m.Wide)
		for _, x := range want {
			least.Values = append(least.Values, x.Low)
			greatest.Values = append(greatest.Values, x.High)
			middle.Values = append(middle.Values, (x.Low+x.High)/2)
		}
		if !same(f, middle) {
			t.Fatal(m, f, middle)
		}
		for _, x := range []api.ChartField{least, greatest, middle, d.fieldOf(m)} {
			if is, e := chart.Fits(m, x); !is || e != api.OK || !isField(m, x) {
				t.Fatal(m, x, is, e)
			}
		}
	}
	if impossible < 200 || impossible > 1500 {
		t.Error("the maps are not mixed enough:", impossible)
	}
}

// TestFitsTried is for P3.1: fields that are changed a little.
func TestFitsTried(t *testing.T) {
	d := dice(33)
	fit, unfit := 0, 0
	for range 3000 {
		m := d.anyMap()
		if _, possible := narrowed(m); !possible {
			continue
		}
		f := d.fieldOf(m)
		for range 20 {
			point := d.IntN(len(f.Values))
			before := f.Values[point]
			f.Values[point] = max(0, min(99999, before+d.from(-1, 1)))
			want := isField(m, f)
			if is, e := chart.Fits(m, f); is != want || e != api.OK {
				t.Fatal(m, f, is, e)
			}
			if want {
				fit++
			} else {
				unfit++
				f.Values[point] = before
			}
		}
	}
	if fit < 5000 || unfit < 5000 {
		t.Error("the fields are not mixed enough:", fit, unfit)
	}
}

// TestDrawExamples is for P3.3.
func TestDrawExamples(t *testing.T) {
	for i, x := range []struct {
		m    api.ChartMap
		want api.ChartField
		e    api.Errno
	}{
		{mapM(), drawnM(), api.OK},
		{api.ChartMap{Wide: 1, Rows: 2}, field(1, 49999, 49999), api.OK},
		{api.ChartMap{Wide: 2, Rows: 1, Slope: 1, Stations: []api.ChartStation{at(0, 0, 1)}}, field(2, 0, 1), api.OK},
		{torn(), api.ChartField{}, api.ErrRule},
	} {
		if f, e := chart.Draw(x.m); !same(f, x.want) || e != x.e {
			t.Error(i, f, e)
		}
	}
}
