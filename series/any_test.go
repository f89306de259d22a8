package series_test

import (
	"fmt"
	"math"
	"slices"
	"strings"
	"testing"

	"isobar/api"
	"isobar/series"
)

// strange returns a number that is often far out of range.
func (d dicer) strange() int {
	return d.among(math.MinInt, math.MinInt+1, math.MinInt32, -100000, -1001, -1000, -401, -400, -201, -200, -6, -1, 0, 1, 2, 3, 4, 5, 9, 10, 11, 200, 201, 400, 401, 500, 501, 1000, 1001, 9999, 10000, 99999, math.MaxInt32, math.MaxInt-1, math.MaxInt)
}

// strangeSpan returns a span that is often not one.
func (d dicer) strangeSpan() api.Span { return span(d.strange(), d.strange()) }

// question is arguments for all functions.
type question struct {
	s        api.SeriesSuite
	in       api.SeriesTruth
	year     int
	from, to int
	level    int
	a, b     int
	text     string
}

// rightQuestion returns arguments that are as defined.
func (d dicer) rightQuestion() question {
	q := question{s: d.suite(d.among(1, 10, 100)), level: d.from(-1000, 1000)}
	if d.IntN(2) == 0 {
		q.s, q.in = d.planted(4, 10, 6, d.among(500, 50, 10), d.among(1, 10, 100))
	}
	q.in.Shifts = append(q.in.Shifts, make([]int, q.s.Shelters-len(q.in.Shifts))...)
	q.in.Values = append(q.in.Values, make([]int, len(q.s.Years)-len(q.in.Values))...)
	n := len(q.s.Years)
	q.year, q.a, q.b, q.from = d.IntN(n), d.IntN(n), d.IntN(n), d.IntN(n)
	q.to = d.from(q.from, n-1)
	q.text, _ = series.Print(q.s)
	return q
}

// strangeQuestion returns arguments some of which are strange.
func (d dicer) strangeQuestion() question {
	q := d.rightQuestion()
	year := &q.s.Years[d.IntN(len(q.s.Years))]
	differ := &api.SeriesCheck{}
	if len(q.s.Checks) > 0 {
		differ = &q.s.Checks[d.IntN(len(q.s.Checks))]
	}
	changes := []func(){
		func() { q.s.First = d.strange() },
		func() { q.s.Shelters = d.strange() },
		func() { q.s.Change = d.strange() },
		func() { q.s.Years = q.s.Years[1:] },
		func() { q.s.Years = slices.Repeat(q.s.Years, d.from(0, 3)) },
		func() { year.Shelter = d.strange() },
		func() { year.Read = !year.Read },
		func() { year.Reading = d.strangeSpan() },
		func() { differ.A = d.strange() },
		func() { differ.B = d.strange() },
		func() { differ.Differ = d.strangeSpan() },
		func() { q.s.Checks = slices.Repeat(q.s.Checks, d.from(0, 7)) },
		func() { q.in.Shifts[0] = d.strange() },
		func() { q.in.Values[0] = d.strange() },
		func() { q.in.Shifts = q.in.Shifts[1:] },
		func() { q.in.Values = q.in.Values[1:] },
		func() { q.in.Shifts = append(q.in.Shifts, d.strange()) },
		func() { q.in.Values = append(q.in.Values, d.strange()) },
		func() { q.year = d.strange() },
		func() { q.from = d.strange() },
		func() { q.to = d.strange() },
		func() { q.level = d.strange() },
		func() { q.a = d.strange() },
		func() { q.b = d.strange() },
		func() { q.text = q.text[d.IntN(len(q.text)):] },
		func() { q.text = q.text[:d.IntN(len(q.text))] },
		func() { q.text = strings.Repeat(q.text, d.from(0, 4)) },
		func() { q.text = strings.Repeat("x", d.among(0, 1, 600, 601)) },
		func() { q.text = ended("series 0 5 0\n0 0 -\n") },
	}
	for _, change := range changes {
		if d.IntN(len(changes)) == 0 {
			change()
		}
	}
	return q
}

// answer is what a function returned: all results but the error, whether they are zero values, and the error.
type answer struct {
	name string
	text string
	zero bool
	e    api.Errno
}

// askAll calls all functions.
func askAll(q question) []answer {
	var out []answer
	add := func(name string, zero bool, e api.Errno, results ...any) {
		out = append(out, answer{name, fmt.Sprint(results...), zero, e})
	}
	add("Check", true, series.Check(q.s))
	fits, e := series.Fits(q.s, q.in)
	add("Fits", !fits, e, fits)
	n, e := series.Clash(q.s)
	add("Clash", n == 0, e, n)
	n, e = series.Jump(q.s)
	add("Jump", n == 0, e, n)
	m, e := series.Moved(q.s, q.year)
	add("Moved", m == span(0, 0), e, m)
	l, e := series.Join(q.s)
	add("Join", len(l) == 0, e, l)
	l, e = series.Shift(q.s)
	add("Shift", len(l) == 0, e, l)
	m, e = series.Normal(q.s, q.from, q.to)
	add("Normal", m == span(0, 0), e, m)
	m, e = series.Frost(q.s, q.level)
	add("Frost", m == span(0, 0), e, m)
	w, e := series.Warmer(q.s, q.a, q.b)
	add("Warmer", w == 0, e, w)
	words, e := series.Warmest(q.s)
	add("Warmest", len(words) == 0, e, words)
	text, e := series.Print(q.s)
	add("Print", text == "", e, text)
	s, e := series.Read(q.text)
	add("Read", same(s, api.SeriesSuite{}), e, s)
	return out
}

// TestAnyArguments is for P0.1 and the rules R2, R4 and R8: whatever the arguments, nothing panics, nothing is changed, and with an error nothing else is returned.
func TestAnyArguments(t *testing.T) {
	d := dice(30)
	results := map[string]map[api.Errno]int{}
	for range 3000 {
		q := d.strangeQuestion()
		before := fmt.Sprintf("%#v", q)
		got := askAll(q)
		if after := fmt.Sprintf("%#v", q); after != before {
			t.Fatal(before, after)
		}
		if again := askAll(q); !slices.Equal(again, got) {
			t.Fatal(before, got, again)
		}
		for _, a := range got {
			if a.e != api.OK && !a.zero {
				t.Fatal(before, a)
			}
			if results[a.name] == nil {
				results[a.name] = map[api.Errno]int{}
			}
			results[a.name][a.e]++
		}
	}
	want := map[string][]api.Errno{
		"Check": {api.OK, api.ErrArg}, "Fits": {api.OK, api.ErrArg}, "Print": {api.OK, api.ErrArg},
		"Clash": {api.OK, api.ErrArg, api.ErrNone}, "Jump": {api.OK, api.ErrArg, api.ErrNone, api.ErrRule}, "Moved": {api.OK, api.ErrArg, api.ErrNone, api.ErrRule},
		"Join": {api.OK, api.ErrArg, api.ErrRule}, "Shift": {api.OK, api.ErrArg, api.ErrRule}, "Normal": {api.OK, api.ErrArg, api.ErrRule},
		"Frost": {api.OK, api.ErrArg, api.ErrRule}, "Warmer": {api.OK, api.ErrArg, api.ErrRule}, "Warmest": {api.OK, api.ErrArg, api.ErrRule},
		"Read": {api.OK, api.ErrArg, api.ErrLong, api.ErrText},
	}
	for name, kinds := range want {
		for e := api.OK; e <= api.ErrOpen; e++ {
			if n := results[name][e]; slices.Contains(kinds, e) != (n > 0) {
				t.Error("other kinds of results:", name, results[name])
			}
		}
	}
}

// TestGreatest is for P0.1: what is as great, or as small, as it can be is answered.
func TestGreatest(t *testing.T) {
	wide := largest()
	for i := range wide.Years {
		wide.Years[i].Reading = span(-1000, 1000)
	}
	wide.Checks = slices.Repeat([]api.SeriesCheck{check(0, 3, -400, 400), check(2, 1, 0, 400)}, 3)
	widest, _ := series.Print(wide)
	least, _ := series.Print(suiteOf(1, 0, unread(0)))
	for i, q := range []question{
		{s: wide, in: truth(4, -200, -200, 200, 0, 1000, 500, 0, -500, -1000, -500, 0, 500, 1000, 1000), year: 9, to: 9, level: 1000, a: 9, text: widest},
		{s: suiteOf(1, 0, read(0, 0, 0)), in: truth(1, 0, 0), level: -1000, text: least},
	} {
		for _, a := range askAll(q) {
			if want := a.name == "Clash" || a.name == "Jump"; want != (a.e == api.ErrNone) || !want && a.e != api.OK {
				t.Error(i, a)
			}
		}
	}
	// ten years each of which jumps, and all comparisons
	jumps := largest()
	for i := 1; i < len(jumps.Years); i += 2 {
		jumps.Years[i].Reading = span(-1000, -1000)
	}
	for _, a := range askAll(question{s: jumps, in: truth(4, make([]int, 14)...), year: 9, to: 9, level: 1000, a: 9}) {
		switch a.name {
		case "Moved":
			if a.e != api.ErrNone {
				t.Error(a)
			}
		case "Jump", "Fits", "Check", "Print":
			if a.e != api.OK {
				t.Error(a)
			}
		}
	}
}

// TestNoSharing is for the rules R3 and R4: results share no memory with arguments, with each other or with those of other calls, and nil is the same as empty.
func TestNoSharing(t *testing.T) {
	q := question{s: suiteS(), in: truth(2, -8, 0, 82, 92, 96, 110, 96), year: 4, to: 4, level: 95, a: 1, b: 4, text: chapterText}
	before := fmt.Sprintf("%#v", q)
	want := askAll(q)
	for range 2 {
		for _, ask := range []func(api.SeriesSuite) ([]api.Span, api.Errno){series.Join, series.Shift} {
			l, _ := ask(q.s)
			for i := range l[:cap(l)] {
				l[:cap(l)][i] = span(-7, -7)
			}
		}
		words, _ := series.Warmest(q.s)
		for i := range words[:cap(words)] {
			words[:cap(words)][i] = -7
		}
		s, _ := series.Read(q.text)
		for i := range s.Years[:cap(s.Years)] {
			s.Years[:cap(s.Years)][i] = read(-7, -7, -7)
		}
		if !slices.Equal(s.Checks, q.s.Checks) {
			t.Error(s)
		}
		for i := range s.Checks[:cap(s.Checks)] {
			s.Checks[:cap(s.Checks)][i] = check(-7, -7, -7, -7)
		}
	}
	if got := askAll(q); !slices.Equal(got, want) || fmt.Sprintf("%#v", q) != before {
		t.Error(got, want)
	}
	one, other := q, q
	one.s.Checks, other.s.Checks = nil, []api.SeriesCheck{}
	one.in, other.in = api.SeriesTruth{}, api.SeriesTruth{Shifts: []int{}, Values: []int{}}
	if a, b := askAll(one), askAll(other); !slices.Equal(a, b) {
		t.Error(a, b)
	}
	one.s.Years, other.s.Years = nil, []api.SeriesYear{}
	if a, b := askAll(one), askAll(other); !slices.Equal(a, b) {
		t.Error(a, b)
	}
}

// TestSeries is for P0.8: joined values lie within all comparisons and readings, and a jump that no move explains is named.
func TestSeries(t *testing.T) {
	d := dice(31)
	joined, named, explained := 0, 0, 0
	for range 3000 {
		s := d.suite(d.among(1, 10, 50))
		if _, e := series.Clash(s); e != api.ErrNone {
			continue
		}
		values, e := series.Join(s)
		shifts, _ := series.Shift(s)
		if e == api.OK {
			joined++
			for i, y := range s.Years {
				shift, value := shifts[y.Shelter], values[i]
				if y.Read && (!has(y.Reading, value.Low-shift.Low) || !has(y.Reading, value.High-shift.High)) {
					t.Fatal(s, shifts, values)
				}
			}
			for _, c := range s.Checks {
				if !has(c.Differ, shifts[c.A].Low-shifts[c.B].Low) || !has(c.Differ, shifts[c.A].High-shifts[c.B].High) {
					t.Fatal(s, shifts)
				}
			}
			continue
		}
		year, e := series.Jump(s)
		if e != api.OK || !s.Years[year].Read {
			t.Fatal(s, year, e)
		}
		named++
		part := firstRead(s, year+1)
		w, _ := movedWorldOf(part, year)
		if _, e := series.Moved(part, year); (e == api.OK) != w.possible() || e != api.OK && e != api.ErrNone {
			t.Fatal(s, year, e)
		} else if e == api.OK {
			explained++
		}
	}
	if joined < 1000 || named < 300 || explained < 100 || explained > named-50 {
		t.Error("too few of a kind:", joined, named, explained)
	}
}

// FuzzRead is for P0.1 and P8.6: whatever the text, what is read is written the same.
func FuzzRead(f *testing.F) {
	for _, text := range []string{"", chapterText, ended("series 0 1 0\n0 0 -\n"), ended("series 9999 4 500\n9999 3 -1000 1000\ncheck 3 0 -400 400\n")} {
		f.Add(text)
	}
	f.Fuzz(func(t *testing.T, text string) {
		for _, text := range []string{text, ended(text)} {
			s, e := series.Read(text)
			if e != api.OK && !same(s, api.SeriesSuite{}) {
				t.Fatal(s, e)
			}
			if e != api.OK {
				continue
			}
			if again, e := series.Print(s); again != text || e != api.OK {
				t.Fatalf("%q %v %q %v", text, s, again, e)
			}
		}
	})
}
