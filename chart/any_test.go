package chart_test

import (
	"fmt"
	"math"
	"slices"
	"testing"

	"isobar/api"
	"isobar/chart"
)

// strange returns a number that is often far out of range.
func (d dicer) strange() int {
	return d.among(math.MinInt, math.MinInt+1, math.MinInt32, -99999, -1, 0, 1, 2, 3, 4, 5, 6, 7, 12, 30, 5000, 5001, 75900, 99999, 100000, math.MaxInt32, math.MaxInt-1, math.MaxInt)
}

// question is arguments for all functions.
type question struct {
	m            api.ChartMap
	f            api.ChartField
	point, level int
	high         bool
	text         string
}

// strangeQuestion returns arguments some of which are strange.
func (d dicer) strangeQuestion() question {
	q := question{m: mapM(), f: drawnM(), point: d.IntN(12), level: d.from(75800, 76000), high: d.IntN(2) == 0, text: chapterText}
	for _, change := range []func(){
		func() { q.m = d.anyMap() },
		func() { q.m.Wide = d.strange() },
		func() { q.m.Rows = d.strange() },
		func() { q.m.Slope = d.strange() },
		func() { q.m.Stations[d.IntN(3)%len(q.m.Stations)].Point = d.strange() },
		func() { q.m.Stations[d.IntN(3)%len(q.m.Stations)].Pressure = span(d.strange(), d.strange()) },
		func() { q.m.Stations = append(q.m.Stations, at(d.strange(), d.strange(), d.strange())) },
		func() { q.m.Stations = slices.Repeat(q.m.Stations, d.IntN(6)) },
		func() { q.f = d.anyField() },
		func() { q.f.Wide = d.strange() },
		func() { q.f.Values[d.IntN(len(q.f.Values))] = d.strange() },
		func() { q.f.Values = q.f.Values[:d.IntN(len(q.f.Values)+1)] },
		func() { q.f.Values = slices.Repeat(q.f.Values, d.IntN(20)) },
		func() { q.point = d.strange() },
		func() { q.level = d.strange() },
		func() { q.text = q.text[:d.IntN(len(q.text)+1)] },
		func() { q.text += q.text },
		func() { q.text = fmt.Sprintf("chart %d %d\nend 00\n", d.strange(), d.strange()) },
	} {
		if d.IntN(20) == 0 && len(q.m.Stations) > 0 && len(q.f.Values) > 0 {
			change()
		}
	}
	return q
}

// answer is what a function returned: all results but the error, whether they are zero values, and the error.
type answer struct {
	name string
	text string
	zero bool
	e    api.Errno
}

// askAll calls all functions.
func askAll(q question) []answer {
	var out []answer
	add := func(name string, zero bool, e api.Errno, results ...any) {
		out = append(out, answer{name, fmt.Sprint(results...), zero, e})
	}
	add("Check", true, chart.Check(q.m))
	b, e := chart.Bounds(q.m)
	add("Bounds", len(b) == 0, e, b)
	one, other, e := chart.Clash(q.m)
	add("Clash", one == 0 && other == 0, e, one, other)
	is, e := chart.Fits(q.m, q.f)
	add("Fits", !is, e, is)
	f, e := chart.Draw(q.m)
	add("Draw", isNone(f), e, f)
	l, e := chart.Lines(q.f, q.level)
	add("Lines", len(l) == 0, e, l)
	word, e := chart.Low(q.m, q.point, q.level)
	add("Low", word == 0, e, word)
	word, e = chart.High(q.m, q.point, q.level)
	add("High", word == 0, e, word)
	f, e = chart.Show(q.m, q.point, q.level, q.high)
	add("Show", isNone(f), e, f)
	text, e := chart.Print(q.f)
	add("Print", text == "", e, text)
	f, e = chart.Read(q.text)
	add("Read", isNone(f), e, f)
	return out
}

// TestAnyArguments is for P0.1 and the rules R2, R4 and R8: whatever the arguments, nothing panics, nothing is changed, and with an error nothing else is returned.
func TestAnyArguments(t *testing.T) {
	d := dice(1)
	results := map[string]map[api.Errno]int{}
	for range 20000 {
		q := d.strangeQuestion()
		before := fmt.Sprintf("%#v", q)
		got := askAll(q)
		if after := fmt.Sprintf("%#v", q); after != before {
			t.Fatal(before, after)
		}
		if again := askAll(q); !slices.Equal(again, got) {
			t.Fatal(before, got, again)
		}
		for _, a := range got {
			if a.e != api.OK && !a.zero {
				t.Fatal(before, a)
			}
			if results[a.name] == nil {
				results[a.name] = map[api.Errno]int{}
			}
			results[a.name][a.e]++
		}
	}
	for name, counts := range results {
		if counts[api.OK] == 0 || len(counts) < 2 {
			t.Error("too few kinds of results:", name, counts)
		}
	}
}

// TestNoSharing is for the rules R3 and R4: results share no memory with arguments, with each other or with those of other calls, and nil is the same as empty.
func TestNoSharing(t *testing.T) {
	list := make([]api.ChartStation, 5, 20)
	copy(list, mapN().Stations)
	spare := list[:20]
	m := api.ChartMap{Wide: 3, Rows: 3, Slope: 100, Stations: list}
	for _, high := range []bool{false, true} {
		f, _ := chart.Show(m, 4, 75801, high)
		ask(m, 4, 75801, high)
		for i := range f.Values {
			f.Values[i] = -1
		}
	}
	if !slices.Equal(m.Stations, mapN().Stations) || spare[5] != (api.ChartStation{}) {
		t.Error("a map was changed:", m, spare)
	}
	f := field(4, 0, 0, 0, 0, 0, 1, 0, 0, 0, 0, 1, 0, 0, 0, 0, 0)
	one, _ := chart.Lines(f, 1)
	before := fmt.Sprint(one[1])
	one[0] = append(one[0], api.ChartCross{Low: -1})
	one[0][0] = api.ChartCross{Low: -1}
	if other, _ := chart.Lines(f, 1); fmt.Sprint(one[1]) != before || other[0][0] != (api.ChartCross{Low: 1, High: 5}) {
		t.Error(one, other)
	}
	drawn, _ := chart.Draw(m)
	drawn.Values[0] = -1
	if again, _ := chart.Draw(m); again.Values[0] != 75955 {
		t.Error(again)
	}
	bare := api.ChartMap{Wide: 3, Rows: 3, Slope: 1}
	empty := bare
	empty.Stations = []api.ChartStation{}
	a := askAll(question{m: bare, f: api.ChartField{Wide: 1}, point: 4, level: 7})
	if b := askAll(question{m: empty, f: field(1, []int{}...), point: 4, level: 7}); !slices.Equal(a, b) {
		t.Error(a, b)
	}
}

// FuzzRead is for P0.1 and P3.7: no text makes Read panic, and what it reads is written the same.
func FuzzRead(f *testing.F) {
	for _, text := range []string{"", "end 00\n", chapterText, "chart 1 1\n0\nend 01\n", "chart 0 1\n\nend 00\n", "chart 1 0\nend 01\n", "chart 99999 99999\n", "chart 0 99999\n\n\n\n", "chart  \n\nend \n", "\xff\n", "chart \xff 1\n"} {
		f.Add(text)
	}
	f.Fuzz(func(t *testing.T, text string) {
		field, e := chart.Read(text)
		if e != api.OK && !isNone(field) {
			t.Fatal(field, e)
		}
		if e != api.OK {
			return
		}
		if again, e := chart.Print(field); e != api.OK || again != text {
			t.Fatal(field, again, e)
		}
	})
}
