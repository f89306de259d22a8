package chart_test

import (
	"slices"
	"testing"

	"isobar/api"
	"isobar/chart"
)

// ask returns what is known of a point: of a closed high if high is true, else of a closed low.
func ask(m api.ChartMap, point, level int, high bool) (api.ChartWord, api.Errno) {
	if high {
		return chart.High(m, point, level)
	}
	return chart.Low(m, point, level)
}

// turned returns the map with all pressures turned around, so that lows are highs.
func turned(m api.ChartMap) api.ChartMap {
	m = copied(m)
	for i, s := range m.Stations {
		m.Stations[i].Pressure = span(99999-s.Pressure.High, 99999-s.Pressure.Low)
	}
	return m
}

// TestWordExamples is for P3.6.
func TestWordExamples(t *testing.T) {
	n, m := mapN(), mapM()
	for i, x := range []struct {
		m            api.ChartMap
		point, level int
		high         bool
		want         api.ChartWord
	}{
		{n, 4, 75850, false, api.ChartSurely},
		{n, 4, 75851, false, api.ChartMay},
		{n, 4, 75810, false, api.ChartMay},
		{n, 4, 75811, false, api.ChartSurely},
		{n, 4, 75801, false, api.ChartMay},
		{n, 4, 75800, false, api.ChartNever},
		{n, 4, 75900, false, api.ChartMay},
		{n, 4, 75910, false, api.ChartMay},
		{n, 4, 75911, false, api.ChartNever},
		{n, 4, 75800, true, api.ChartNever},
		{m, 5, 75000, true, api.ChartNever},
		{m, 5, 1, false, api.ChartNever},
		{m, 5, 99999, true, api.ChartNever},
		// points at the edge, all of which are low, or high
		{n, 0, 76000, false, api.ChartNever},
		{n, 1, 75851, false, api.ChartNever},
		{n, 8, 75000, true, api.ChartNever},
		{n, 5, 75800, true, api.ChartNever},
		{turned(n), 4, 99999 - 75811, true, api.ChartSurely},
		{turned(n), 4, 99999 - 75800, true, api.ChartMay},
		{turned(n), 4, 99999 - 75799, true, api.ChartNever},
		{turned(n), 4, 99999 - 75900, true, api.ChartMay},
		{api.ChartMap{Wide: 3, Rows: 3, Slope: 1}, 4, 50000, false, api.ChartMay},
		{api.ChartMap{Wide: 3, Rows: 3, Slope: 1}, 4, 50000, true, api.ChartMay},
		{api.ChartMap{Wide: 3, Rows: 3}, 4, 50000, false, api.ChartNever},
		{api.ChartMap{Wide: 3, Rows: 3}, 4, 50000, true, api.ChartNever},
		{api.ChartMap{Wide: 3, Rows: 2, Slope: 9}, 4, 50000, false, api.ChartNever},
		{api.ChartMap{Wide: 6, Rows: 1, Slope: 9}, 3, 50000, true, api.ChartNever},
		{api.ChartMap{Wide: 1, Rows: 1, Slope: 9}, 0, 1, false, api.ChartNever},
		// the least and the greatest level
		{api.ChartMap{Wide: 3, Rows: 3, Slope: 1}, 4, 1, false, api.ChartMay},
		{api.ChartMap{Wide: 3, Rows: 3, Slope: 1}, 4, 99999, true, api.ChartMay},
		// a low goes on across a corner, a high does not
		{exact(field(3, 0, 1, 1, 1, 0, 1, 1, 1, 1)), 4, 1, false, api.ChartNever},
		{exact(field(3, 1, 0, 0, 0, 1, 0, 0, 0, 0)), 4, 1, true, api.ChartSurely},
		{exact(field(3, 1, 1, 0, 0, 1, 0, 0, 0, 0)), 4, 1, true, api.ChartNever},
		{exact(field(3, 1, 1, 1, 1, 0, 1, 1, 1, 1)), 4, 1, false, api.ChartSurely},
		{exact(field(3, 1, 1, 1, 1, 0, 1, 1, 1, 0)), 4, 1, false, api.ChartNever},
		// over a second point
		{exact(field(4, 1, 1, 1, 1, 1, 0, 0, 1, 1, 1, 1, 1)), 5, 1, false, api.ChartSurely},
		{exact(field(4, 1, 1, 1, 0, 1, 0, 0, 1, 1, 1, 1, 1)), 5, 1, false, api.ChartNever},
		{exact(field(4, 0, 0, 0, 1, 0, 1, 1, 0, 0, 0, 0, 1)), 5, 1, true, api.ChartSurely},
		{exact(field(4, 0, 0, 1, 0, 0, 1, 1, 0, 0, 0, 0, 0)), 5, 1, true, api.ChartNever},
	} {
		if word, e := ask(x.m, x.point, x.level, x.high); word != x.want || e != api.OK {
			t.Error(i, word, e)
		}
		f, e := chart.Show(x.m, x.point, x.level, x.high)
		if (e == api.ErrNone) != (x.want == api.ChartNever) || (e == api.OK) == isNone(f) {
			t.Error(i, f, e)
		}
	}
}

// TestShowExamples is for P3.6.
func TestShowExamples(t *testing.T) {
	flat := api.ChartMap{Wide: 3, Rows: 3, Slope: 1}
	for i, x := range []struct {
		m            api.ChartMap
		point, level int
		high         bool
		want         api.ChartField
	}{
		{mapN(), 4, 75801, false, field(3, 75960, 75900, 75960, 75900, 75800, 75900, 75960, 75900, 75960)},
		{mapN(), 4, 75850, false, field(3, 75960, 75910, 75960, 75910, 75810, 75910, 75960, 75910, 75960)},
		{turned(mapN()), 4, 99999 - 75800, true, field(3, 24039, 24099, 24039, 24099, 24199, 24099, 24039, 24099, 24039)},
		{flat, 4, 1, false, field(3, 2, 1, 2, 1, 0, 1, 2, 1, 2)},
		{flat, 4, 1, true, field(3, 0, 0, 0, 0, 1, 0, 0, 0, 0)},
		{flat, 4, 99999, false, field(3, 99999, 99999, 99999, 99999, 99998, 99999, 99999, 99999, 99999)},
		{flat, 4, 99999, true, field(3, 99997, 99998, 99997, 99998, 99999, 99998, 99997, 99998, 99997)},
		{mapN(), 4, 75800, false, api.ChartField{}},
		{mapN(), 4, 75911, false, api.ChartField{}},
		{mapN(), 0, 75911, false, api.ChartField{}},
	} {
		f, e := chart.Show(x.m, x.point, x.level, x.high)
		if !same(f, x.want) || (e == api.ErrNone) != isNone(x.want) || (e == api.OK) == isNone(x.want) {
			t.Error(i, f, e)
		}
	}
}

// TestWordErrors is for P3.6: what is not as defined, and the order of errors.
func TestWordErrors(t *testing.T) {
	type question struct {
		m            api.ChartMap
		point, level int
		want         api.Errno
	}
	list := []question{
		{mapN(), -1, 75850, api.ErrArg}, {mapN(), 9, 75850, api.ErrArg}, {mapN(), 4, 0, api.ErrArg}, {mapN(), 4, -5, api.ErrArg}, {mapN(), 4, 100000, api.ErrArg},
		{torn(), 5, 75850, api.ErrRule}, {torn(), 0, 1, api.ErrRule}, {torn(), 12, 75850, api.ErrArg}, {torn(), 5, 0, api.ErrArg}, {torn(), -1, 100000, api.ErrArg},
	}
	for _, m := range wrongMaps() {
		list = append(list, question{m, 0, 75850, api.ErrArg}, question{m, -1, 0, api.ErrArg})
	}
	for i, x := range list {
		for _, high := range []bool{false, true} {
			if word, e := ask(x.m, x.point, x.level, high); word != 0 || e != x.want {
				t.Error(i, high, word, e)
			}
			if f, e := chart.Show(x.m, x.point, x.level, high); !isNone(f) || e != x.want {
				t.Error(i, high, f, e)
			}
		}
	}
}

// tried is what the fields of a map that were gone through say of a point: how many there are, in how many the point lies in a low, or a high, and the field that shows it.
type tried struct {
	all   int
	in    int
	shown api.ChartField
}

// add counts a field.
func (x *tried) add(f api.ChartField, point, level int, high bool) {
	x.all++
	if (f.Values[point] >= level) == high {
		if isNone(x.shown) {
			x.shown = field(f.Wide, slices.Clone(f.Values)...)
		}
		for p, value := range f.Values {
			if high {
				x.shown.Values[p] = min(x.shown.Values[p], value)
			} else {
				x.shown.Values[p] = max(x.shown.Values[p], value)
			}
		}
	}
	if lies(f, point, level, high) {
		x.in++
	}
}

// word returns what is known.
func (x *tried) word() api.ChartWord {
	switch x.in {
	case 0:
		return api.ChartNever
	case x.all:
		return api.ChartSurely
	}
	return api.ChartMay
}

// smallRing returns a map that has not too many fields, a point of it, and a level below which the point often lies, but the points around it not; or, if high is true, the other way round.
func (d dicer) smallRing() (m api.ChartMap, point, level int, high bool) {
	level, high = d.among(2, 3, 75900, 99996), d.IntN(2) == 0
	m = api.ChartMap{Wide: d.from(3, 4), Rows: 3, Slope: d.from(1, 2)}
	point = m.Wide + d.from(1, m.Wide-2)
	low := level - d.from(1, 2)
	m.Stations = append(m.Stations, at(point, low, low+d.from(0, 1)))
	for p := range m.Wide * m.Rows {
		low = level + d.among(-1, 0, 0, 0, 0, 0, 1, 1)
		if p != point && d.IntN(8) > 0 {
			m.Stations = append(m.Stations, at(p, low, low+d.from(0, 1)))
		}
	}
	if high {
		m, level = turned(m), 99999-level+1
	}
	return m, point, level, high
}

// TestWordsTried is for P3.6: all fields of small maps are gone through.
func TestWordsTried(t *testing.T) {
	d := dice(37)
	words := map[api.ChartWord]int{}
	for i := range 1500 {
		m, point, level, high := d.smallRing()
		if i%3 == 0 {
			m = d.smallMap()
			point, level = min(point, m.Wide*m.Rows-1), max(1, min(99999, m.Stations[0].Pressure.Low+d.from(-2, 3)))
		}
		if _, possible := narrowed(m); !possible {
			continue
		}
		var x tried
		for f := range allFields(m) {
			x.add(f, point, level, high)
			if x.all > 20000 {
				break
			}
		}
		if x.all > 20000 {
			continue
		}
		words[x.word()]++
		if word, e := ask(m, point, level, high); word != x.word() || e != api.OK {
			t.Fatal(m, point, level, high, word, e, x)
		}
		f, e := chart.Show(m, point, level, high)
		if x.in == 0 && (!isNone(f) || e != api.ErrNone) || x.in > 0 && (!same(f, x.shown) || e != api.OK) {
			t.Fatal(m, point, level, high, f, e, x)
		}
	}
	if words[api.ChartNever] < 100 || words[api.ChartMay] < 50 || words[api.ChartSurely] < 20 {
		t.Error("the maps are not mixed enough:", words)
	}
}

// TestWordsExact is for P3.6: maps that have one field alone, with what the chapter says of this one.
func TestWordsExact(t *testing.T) {
	d := dice(38)
	inside := 0
	for range 3000 {
		size := [][2]int{{4, 3}, {3, 4}, {3, 3}, {4, 3}, {3, 4}, {3, 3}, {6, 2}, {2, 5}}[d.IntN(8)]
		f := field(size[0])
		often := d.from(0, 2)
		for p := range size[0] * size[1] {
			atEdge := p < size[0] || p >= size[0]*(size[1]-1) || p%size[0] == 0 || p%size[0] == size[0]-1
			if atEdge && d.IntN(6) > 0 {
				f.Values = append(f.Values, 500+often)
			} else {
				f.Values = append(f.Values, 500+d.from(0, 2))
			}
		}
		m := exact(f)
		level := 500 + d.from(0, 3)
		for point := range f.Values {
			for _, high := range []bool{false, true} {
				want, wantError := api.ChartNever, api.ErrNone
				if lies(f, point, level, high) {
					want, wantError = api.ChartSurely, api.OK
					inside++
				}
				if word, e := ask(m, point, level, high); word != want || e != api.OK {
					t.Fatal(f, point, level, high, word, e)
				}
				shown, e := chart.Show(m, point, level, high)
				if e != wantError || (e == api.OK) != same(shown, f) {
					t.Fatal(f, point, level, high, shown, e)
				}
			}
		}
	}
	if inside < 300 {
		t.Error("too few lows and highs:", inside)
	}
}

// ring returns a larger map of a hollow, or of a hill, a point within it, and a level that often lies between this one and those around it.
func (d dicer) ring() (m api.ChartMap, point, level int, high bool) {
	level, high = 50000+d.from(-20, 20), d.IntN(2) == 0
	f := field(d.from(4, 6), make([]int, 30)...)
	f.Values = f.Values[:f.Wide*d.from(3, 5)]
	point = f.Wide + d.from(1, f.Wide-2)
	steep := d.from(5, 60)
	depth := d.from(-4, steep)
	for p := range f.Values {
		f.Values[p] = level - depth + steep*apart(f.Wide, p, point)
	}
	m = d.observed(f, steep+d.among(0, 0, 0, 1, 20), d.from(6, 11), d.from(0, 3))
	m.Stations = append(m.Stations, at(point, level-depth, level-depth+d.from(0, 3)))
	if high {
		m, level = turned(m), 99999-level+1
	}
	return m, point, level, high
}

// beyond reports whether no value of a field is less than that of another one; or, if high is true, none is greater.
func beyond(f, other api.ChartField, high bool) bool {
	for point, value := range f.Values {
		if high && value > other.Values[point] || !high && value < other.Values[point] {
			return false
		}
	}
	return true
}

// TestWordsInFields is for P3.6: what is said of a point holds in fields of larger maps, and in the field that is shown.
func TestWordsInFields(t *testing.T) {
	d := dice(39)
	words := map[api.ChartWord]int{}
	for range 2000 {
		m, point, level, high := d.ring()
		word, e := ask(m, point, level, high)
		shown, showError := chart.Show(m, point, level, high)
		if e == api.ErrRule && showError == api.ErrRule {
			continue
		}
		if e != api.OK || (showError == api.OK) != (word != api.ChartNever) {
			t.Fatal(m, point, level, high, word, e, showError)
		}
		words[word]++
		if showError == api.OK && (!isField(m, shown) || !lies(shown, point, level, high)) {
			t.Fatal(m, point, level, high, shown)
		}
		for range 5 {
			f := d.fieldOf(m)
			in := lies(f, point, level, high)
			if in && word == api.ChartNever || !in && word == api.ChartSurely {
				t.Fatal(m, point, level, high, word, f)
			}
			if showError == api.OK && (f.Values[point] >= level) == high && !beyond(shown, f, high) {
				t.Fatal(m, point, level, high, shown, f)
			}
		}
	}
	if words[api.ChartNever] < 100 || words[api.ChartMay] < 100 || words[api.ChartSurely] < 100 {
		t.Error("the maps are not mixed enough:", words)
	}
}
