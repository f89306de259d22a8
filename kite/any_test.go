package kite_test

import (
	"fmt"
	"math"
	"slices"
	"testing"

	"isobar/api"
	"isobar/kite"
)

// strange returns a number that is often far out of range.
func (d dicer) strange() int {
	return d.among(math.MinInt, math.MinInt+1, math.MinInt32, -100001, -100000, -5001, -5000, -901, -900, -101, -100, -9, -2, -1, 0, 1, 2, 4, 5, 8, 9, 49, 50, 90, 91, 100, 101, 400, 500, 501, 1000, 1001, 3000, 3001, 5000, 5001, 10000, 10001, 99999, 100000, 100001, math.MaxInt32, math.MaxInt-1, math.MaxInt)
}

// strangeSpan returns a span that is often not one.
func (d dicer) strangeSpan() api.Span { return span(d.strange(), d.strange()) }

// question is arguments for all functions.
type question struct {
	k                              api.KiteLine
	wire, angle, sag, base, height int
	r                              api.KiteTrace
	temps                          []int
	f                              api.KiteFlight
	in                             api.KiteTruth
	s                              show
}

// rightQuestion returns arguments that are as defined.
func (d dicer) rightQuestion() question {
	q := question{k: d.line(100, 10, 100), r: d.trace(8, 100), f: d.flight(4, 5, 2)}
	q.wire, q.angle, q.sag, q.base = d.of(q.k.Wire), d.of(q.k.Angle), d.of(q.k.Sag), d.of(q.r.Base)
	for _, m := range q.r.Marks {
		q.temps = append(q.temps, d.of(m.Temp))
	}
	q.height = d.from(-5000, 20000)
	q.in, q.s = d.truth(q.f), shows(len(q.f.Layers))[d.IntN(4*len(q.f.Layers))]
	return q
}

// strangeQuestion returns arguments some of which are strange.
func (d dicer) strangeQuestion() question {
	q := d.rightQuestion()
	mark, layer := &q.r.Marks[d.IntN(len(q.r.Marks))], &q.f.Layers[d.IntN(len(q.f.Layers))]
	changes := []func(){
		func() { q.k.Wire = d.strangeSpan() },
		func() { q.k.Angle = d.strangeSpan() },
		func() { q.k.Sag = d.strangeSpan() },
		func() { q.wire = d.strange() },
		func() { q.angle = d.strange() },
		func() { q.sag = d.strange() },
		func() { q.base = d.strange() },
		func() { q.height = d.strange() },
		func() { q.r.Base = d.strangeSpan() },
		func() { mark.Pressure = d.strange() },
		func() { mark.Temp = d.strangeSpan() },
		func() { q.r.Marks = q.r.Marks[1:] },
		func() { q.r.Marks = slices.Repeat(q.r.Marks, d.from(0, 9)) },
		func() { q.temps = append(q.temps, d.strange()) },
		func() { q.temps = q.temps[1:] },
		func() { q.temps[0] = d.strange() },
		func() { layer.Deep = d.strange() },
		func() { layer.East = d.strangeSpan() },
		func() { layer.North = d.strangeSpan() },
		func() { q.f.Layers = q.f.Layers[1:] },
		func() { q.f.Layers = slices.Repeat(q.f.Layers, d.from(0, 5)) },
		func() { q.f.Up = d.strangeSpan() },
		func() { q.f.Down = d.strangeSpan() },
		func() { q.f.Top = d.strangeSpan() },
		func() { q.f.East = d.strangeSpan() },
		func() { q.f.North = d.strangeSpan() },
		func() { q.f.Minutes = d.strangeSpan() },
		func() { q.in.Up = d.strange() },
		func() { q.in.Down = d.strange() },
		func() { q.in.Top = d.strange() },
		func() { q.in.East = append(q.in.East, d.strange()) },
		func() { q.in.North = append(q.in.North, d.strange()) },
		func() { q.in.East = q.in.East[1:] },
		func() { q.in.North[0] = d.strange() },
		func() { q.s.layer = d.strange() },
	}
	for _, change := range changes {
		if d.IntN(len(changes)) == 0 {
			change()
		}
	}
	return q
}

// answer is what a function returned: all results but the error, whether they are zero values, and the error.
type answer struct {
	name string
	text string
	zero bool
	e    api.Errno
}

// askAll calls all functions.
func askAll(q question) []answer {
	var out []answer
	add := func(name string, zero bool, e api.Errno, results ...any) {
		out = append(out, answer{name, fmt.Sprint(results...), zero, e})
	}
	s, e := kite.Height(q.k)
	add("Height", s == span(0, 0), e, s)
	n, e := kite.Climb(q.k, q.wire, q.angle, q.sag)
	add("Climb", n == 0, e, n)
	levels, e := kite.Levels(q.r)
	add("Levels", len(levels) == 0, e, levels)
	heights, e := kite.Rise(q.r, q.base, q.temps)
	add("Rise", len(heights) == 0, e, heights)
	can, surely, e := kite.Above(q.r, q.height)
	add("Above", can == 0 && surely == 0, e, can, surely)
	add("Check", true, kite.Check(q.f))
	east, north, minutes, e := kite.Play(q.f, q.in)
	add("Play", east == 0 && north == 0 && minutes == 0, e, east, north, minutes)
	fits, e := kite.Fits(q.f, q.in)
	add("Fits", !fits, e, fits)
	l, e := kite.Land(q.f)
	add("Land", l == api.KiteLanding{}, e, l)
	w, e := kite.Winds(q.f)
	add("Winds", sameWinds(w, api.KiteWinds{}), e, w)
	in, e := kite.First(q.f)
	add("First", same(in, api.KiteTruth{}), e, in)
	in, e = kite.Show(q.f, q.s.layer, q.s.north, q.s.high)
	add("Show", same(in, api.KiteTruth{}), e, in)
	return out
}

// TestAnyArguments is for P0.1 and the rules R2, R4 and R8: whatever the arguments, nothing panics, nothing is changed, and with an error nothing else is returned.
func TestAnyArguments(t *testing.T) {
	d := dice(30)
	results := map[string]map[api.Errno]int{}
	for range 3000 {
		q := d.strangeQuestion()
		before := fmt.Sprintf("%#v", q)
		got := askAll(q)
		if after := fmt.Sprintf("%#v", q); after != before {
			t.Fatal(before, after)
		}
		if again := askAll(q); !slices.Equal(again, got) {
			t.Fatal(before, got, again)
		}
		for _, a := range got {
			if a.e != api.OK && !a.zero {
				t.Fatal(before, a)
			}
			if results[a.name] == nil {
				results[a.name] = map[api.Errno]int{}
			}
			results[a.name][a.e]++
		}
	}
	for name, counts := range results {
		kinds := 2
		if slices.Contains([]string{"Above", "Winds", "First", "Show"}, name) {
			kinds = 3
		}
		if counts[api.OK] < 300 || counts[api.ErrArg] < 100 || len(counts) != kinds {
			t.Error("other kinds of results:", name, counts)
		}
	}
}

// TestGreatest is for P0.1: what is as great, or as small, as it can be is answered.
func TestGreatest(t *testing.T) {
	small := least()
	small.East, small.North, small.Minutes = span(-100000, 0), span(-100000, 0), span(2, 2)
	wide := api.KiteLine{Wire: span(0, 10000), Angle: span(0, 90), Sag: span(0, 1000)}
	for i, q := range []question{
		{k: wide, wire: 10000, angle: 90, base: 5000, temps: []int{500, 500, 500, 500, 500, 500, 500, 500}, r: eight(), f: greatest(), in: truth(1000, 1000, 4, 100, 100, 100, 100, 100, 100, 100, 100), s: show{3, true, true}},
		{k: wide, sag: 1000, base: -5000, height: -100000, temps: []int{-900, -900, -900, -900, -900, -900, -900, -900}, r: eight(), f: slow(), in: truth(50, 50, 1, -4, -4, -4, -4, -100, -100, -100, -100), s: show{3, false, false}},
		{r: traceOf(1), height: -1, temps: []int{0}, f: small, in: truth(50, 50, 1, -100, -100)},
	} {
		for _, a := range askAll(q) {
			if a.e != api.OK {
				t.Error(i, a)
			}
		}
	}
}

// TestNoSharing is for the rules R3 and R4: results share no memory with arguments, with each other or with those of other calls, and nil is the same as empty.
func TestNoSharing(t *testing.T) {
	q := question{k: kiteK(), wire: 1010, angle: 41, sag: 30, base: 105, height: 680, r: traceT(), temps: []int{155, 125, 50}, f: flightF(), in: truth(200, 400, 2, 2, 5, 0, -1), s: show{0, true, true}}
	before := fmt.Sprintf("%#v", q)
	want := askAll(q)
	spoil := func(list []int) {
		for i := range list[:cap(list)] {
			list[:cap(list)][i] = -7
		}
	}
	spoilSpans := func(list []api.Span) {
		for i := range list[:cap(list)] {
			list[:cap(list)][i] = span(-7, -7)
		}
	}
	for range 2 {
		heights, _ := kite.Rise(q.r, q.base, q.temps)
		spoil(heights)
		levels, _ := kite.Levels(q.r)
		spoilSpans(levels)
		w, _ := kite.Winds(q.f)
		spoilSpans(w.East)
		if !slices.Equal(w.North, []api.Span{span(0, 1), span(-2, -1)}) {
			t.Error(w)
		}
		spoilSpans(w.North)
		first, _ := kite.First(q.f)
		shown, _ := kite.Show(q.f, 0, false, false)
		spoil(first.East)
		if !slices.Equal(first.North, []int{0, -1}) || !slices.Equal(shown.East, []int{1, 6}) {
			t.Error(first, shown)
		}
		spoil(first.North)
		spoil(shown.East)
		spoil(shown.North)
	}
	if got := askAll(q); !slices.Equal(got, want) || fmt.Sprintf("%#v", q) != before {
		t.Error(got, want)
	}
	empty := question{r: api.KiteTrace{Marks: []api.KiteMark{}}, temps: []int{}, f: api.KiteFlight{Layers: []api.KiteLayer{}}, in: api.KiteTruth{East: []int{}, North: []int{}}}
	if a, b := askAll(question{}), askAll(empty); !slices.Equal(a, b) {
		t.Error(a, b)
	}
}

// TestSoundings is for P0.7: heights and winds lie within what the instruments and the finder allow, and each end is shown.
func TestSoundings(t *testing.T) {
	d := dice(31)
	possible := 0
	for range 500 {
		k, r, f := d.line(500, 20, 200), d.trace(8, 200), d.flight(4, 8, 3)
		height, _ := kite.Height(k)
		low, _ := kite.Climb(k, k.Wire.Low, k.Angle.Low, k.Sag.High)
		high, _ := kite.Climb(k, k.Wire.High, k.Angle.High, k.Sag.Low)
		if height != span(low, high) {
			t.Fatal(k, height, low, high)
		}
		levels, _ := kite.Levels(r)
		spans := traceSpans(r)
		lowest, _ := kite.Rise(r, r.Base.Low, bottoms(spans)[1:])
		highest, _ := kite.Rise(r, r.Base.High, tops(spans)[1:])
		if !slices.Equal(bottoms(levels), lowest) || !slices.Equal(tops(levels), highest) {
			t.Fatal(r, levels, lowest, highest)
		}
		w, e := kite.Winds(f)
		if e != api.OK {
			continue
		}
		possible++
		for _, s := range shows(len(f.Layers)) {
			in, e := kite.Show(f, s.layer, s.north, s.high)
			fits, err := kite.Fits(f, in)
			if e != api.OK || err != api.OK || !fits || windsTo(in, s.north)[s.layer] != s.end(w) {
				t.Fatal(f, s, w, in, e, err)
			}
		}
	}
	if possible < 250 {
		t.Error("too few are possible:", possible)
	}
}
