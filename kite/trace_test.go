package kite_test

import (
	"math"
	"slices"
	"testing"

	"isobar/api"
	"isobar/kite"
)

// traceOf returns a trace that begins at 0, with marks of some pressures and of a temperature of 0.
func traceOf(pressures ...int) api.KiteTrace {
	var t api.KiteTrace
	for _, p := range pressures {
		t.Marks = append(t.Marks, api.KiteMark{Pressure: p})
	}
	return t
}

// eight returns a trace with all numbers as great as they can be, and all marks.
func eight() api.KiteTrace {
	t := traceOf(99999, 85000, 70000, 50000, 30000, 10000, 100, 1)
	t.Base = span(-5000, 5000)
	for i := range t.Marks {
		t.Marks[i].Temp = span(-900, 500)
	}
	return t
}

// TestRise is for P7.2: the chapter's example, and the edges.
func TestRise(t *testing.T) {
	fixed := func(base int, temps []int, pressures ...int) api.KiteTrace {
		r := traceOf(pressures...)
		r.Base = span(base, base)
		for i, n := range temps {
			r.Marks[i].Temp = span(n, n)
		}
		return r
	}
	for i, x := range []struct {
		t     api.KiteTrace
		base  int
		temps []int
		want  []int
	}{
		{traceT(), 105, []int{155, 125, 50}, []int{105, 684, 1953}},
		{traceT(), 100, []int{150, 120, 40}, []int{100, 678, 1944}},
		{traceT(), 110, []int{160, 130, 60}, []int{110, 690, 1963}},
		{traceOf(75000), 0, []int{0}, []int{0}},
		{traceOf(2, 1), 0, []int{0, 0}, []int{0, 5331}},
		{traceOf(99999, 1), 0, []int{0, 0}, []int{0, 15992}},
		{traceOf(99999, 99998), 0, []int{0, 0}, []int{0, 0}},
		{traceOf(99999, 99998, 99997), 0, []int{0, 0, 0}, []int{0, 0, 0}},
		{traceOf(3, 2, 1), 0, []int{0, 0, 0}, []int{0, 3198, 8529}},
		{fixed(-5000, []int{-900, -900}, 2, 1), -5000, []int{-900, -900}, []int{-5000, -1426}},
		{fixed(5000, []int{500, 500}, 2, 1), 5000, []int{500, 500}, []int{5000, 11306}},
		{fixed(5000, []int{500, -900}, 2, 1), 5000, []int{500, -900}, []int{5000, 9940}},
	} {
		if n, e := kite.Rise(x.t, x.base, x.temps); !slices.Equal(n, x.want) || e != api.OK {
			t.Error(i, n, e)
		}
	}
}

// TestLevels is for P7.2: the chapter's example, and the edges.
func TestLevels(t *testing.T) {
	base := traceOf(75000)
	base.Base = span(-5000, 5000)
	for i, x := range []struct {
		t    api.KiteTrace
		want []api.Span
	}{
		{traceT(), []api.Span{span(100, 110), span(678, 690), span(1944, 1963)}},
		{traceOf(75000), []api.Span{span(0, 0)}},
		{base, []api.Span{span(-5000, 5000)}},
		{traceOf(99999, 1), []api.Span{span(0, 0), span(15992, 15992)}},
		{eight(), []api.Span{span(-5000, 5000), span(-4131, 6533), span(-3094, 8363), span(-1307, 11516), span(1374, 16246), span(6736, 25706), span(17248, 44251), span(27760, 62796)}},
	} {
		if s, e := kite.Levels(x.t); !slices.Equal(s, x.want) || e != api.OK {
			t.Error(i, s, e)
		}
	}
}

// TestLevelsOfAll is for P7.2: in all truths of small traces the height of each mark is what the chapter says and lies within its bounds, and both ends are reached.
func TestLevelsOfAll(t *testing.T) {
	d := dice(3)
	wide := 0
	for range 500 {
		r := d.trace(3, d.among(2, 6))
		want := levelsOf(r)
		for list := range lists(traceSpans(r)...) {
			n, e := kite.Rise(r, list[0], list[1:])
			if !slices.Equal(n, riseOf(r, list[0], list[1:])) || e != api.OK {
				t.Fatal(r, list, n, e)
			}
		}
		if s, e := kite.Levels(r); !slices.Equal(s, want) || e != api.OK {
			t.Fatal(r, s, want, e)
		}
		if want[len(want)-1].Low < want[len(want)-1].High {
			wide++
		}
	}
	if wide < 250 {
		t.Error("too few are wide:", wide)
	}
}

// bottoms returns the least numbers of spans.
func bottoms(spans []api.Span) []int {
	var out []int
	for _, s := range spans {
		out = append(out, s.Low)
	}
	return out
}

// tops returns the greatest numbers of spans.
func tops(spans []api.Span) []int {
	var out []int
	for _, s := range spans {
		out = append(out, s.High)
	}
	return out
}

// TestLevelsOfMany is for P7.2: whatever is true of traces of all sizes, the height of each mark lies within its bounds; all least ones are so at once, and all greatest ones.
func TestLevelsOfMany(t *testing.T) {
	d := dice(4)
	for range 2000 {
		r := d.trace(8, d.among(10, 2000, 10000))
		s, e := kite.Levels(r)
		if len(s) != len(r.Marks) || e != api.OK {
			t.Fatal(r, s, e)
		}
		spans := traceSpans(r)
		for range 5 {
			var temps []int
			for _, m := range r.Marks {
				temps = append(temps, d.of(m.Temp))
			}
			heights, e := kite.Rise(r, d.of(r.Base), temps)
			if len(heights) != len(s) || e != api.OK {
				t.Fatal(r, heights, e)
			}
			for i, n := range heights {
				if !has(s[i], n) {
					t.Fatal(r, s, i, n)
				}
			}
		}
		least, e1 := kite.Rise(r, r.Base.Low, bottoms(spans)[1:])
		most, e2 := kite.Rise(r, r.Base.High, tops(spans)[1:])
		if !slices.Equal(least, bottoms(s)) || !slices.Equal(most, tops(s)) || e1 != api.OK || e2 != api.OK {
			t.Fatal(r, s, least, most, e1, e2)
		}
	}
}

// TestAbove is for P7.3: the chapter's example, and the edges.
func TestAbove(t *testing.T) {
	level := traceOf(99999, 99998, 99997)
	for i, x := range []struct {
		t           api.KiteTrace
		height      int
		can, surely int
		e           api.Errno
	}{
		{traceT(), 680, 1, 2, api.OK}, {traceT(), 677, 1, 1, api.OK}, {traceT(), 1944, 2, -1, api.OK}, {traceT(), 1963, 0, 0, api.ErrNone},
		{traceT(), 678, 1, 2, api.OK}, {traceT(), 689, 1, 2, api.OK}, {traceT(), 690, 2, 2, api.OK}, {traceT(), 1943, 2, 2, api.OK}, {traceT(), 1962, 2, -1, api.OK}, {traceT(), 1964, 0, 0, api.ErrNone},
		{traceT(), 99, 0, 0, api.OK}, {traceT(), 100, 0, 1, api.OK}, {traceT(), 109, 0, 1, api.OK}, {traceT(), 110, 1, 1, api.OK}, {traceT(), 0, 0, 0, api.OK},
		{traceT(), -100000, 0, 0, api.OK}, {traceT(), 100000, 0, 0, api.ErrNone},
		{level, -1, 0, 0, api.OK}, {level, 0, 0, 0, api.ErrNone},
		{eight(), -5001, 0, 0, api.OK}, {eight(), 4999, 0, 5, api.OK}, {eight(), -5000, 0, 1, api.OK},
		{traceT(), -100001, 0, 0, api.ErrArg}, {traceT(), 100001, 0, 0, api.ErrArg}, {traceT(), math.MinInt, 0, 0, api.ErrArg}, {traceT(), math.MaxInt, 0, 0, api.ErrArg},
	} {
		if can, surely, e := kite.Above(x.t, x.height); can != x.can || surely != x.surely || e != x.e {
			t.Error(i, can, surely, e)
		}
	}
}

// firstAbove returns the first of some heights that is more than another one, or -1.
func firstAbove(heights []int, height int) int {
	return slices.IndexFunc(heights, func(n int) bool { return n > height })
}

// TestAboveInAll is for P7.3: no truth of small traces has a mark above a height before the first that can be; the first one that surely is above is so in all of them, and none before it.
func TestAboveInAll(t *testing.T) {
	d := dice(5)
	kinds := map[string]int{}
	for range 1500 {
		r := d.trace(4, d.among(1, 3))
		all := levelsOf(r)
		height := d.of(all[d.IntN(len(all))]) + d.from(-2, 2)
		can, surely := math.MaxInt, slices.Repeat([]bool{true}, len(all))
		for list := range lists(traceSpans(r)...) {
			heights := riseOf(r, list[0], list[1:])
			if at := firstAbove(heights, height); at >= 0 {
				can = min(can, at)
			}
			for i, n := range heights {
				surely[i] = surely[i] && n > height
			}
		}
		one, other, e := kite.Above(r, height)
		switch {
		case can == math.MaxInt:
			kinds["none"]++
			if one != 0 || other != 0 || e != api.ErrNone {
				t.Fatal(r, height, one, other, e)
			}
		case one != can || other != slices.Index(surely, true) || e != api.OK:
			t.Fatal(r, height, one, other, e, can, surely)
		case other < 0:
			kinds["can"]++
		case one == other:
			kinds["same"]++
		default:
			kinds["both"]++
		}
	}
	if kinds["none"] < 50 || kinds["can"] < 50 || kinds["same"] < 50 || kinds["both"] < 50 {
		t.Error("too few of a kind:", kinds)
	}
}

// TestAboveInMany is for P7.3: whatever is true of traces of all sizes, no mark before the first that can be above is, and the one that surely is above is; a truth shows the first, and another one that none before is sure.
func TestAboveInMany(t *testing.T) {
	d := dice(6)
	for range 3000 {
		r := d.trace(8, d.among(10, 100, 2000))
		all, _ := kite.Levels(r)
		height := d.of(all[d.IntN(len(all))]) + d.among(0, -1, d.from(-500, 500))
		can, surely, e := kite.Above(r, height)
		if e == api.ErrNone {
			can, surely = len(r.Marks), -1
		} else if e != api.OK {
			t.Fatal(r, height, e)
		}
		for range 10 {
			var temps []int
			for _, m := range r.Marks {
				temps = append(temps, d.of(m.Temp))
			}
			heights, _ := kite.Rise(r, d.of(r.Base), temps)
			if at := firstAbove(heights, height); at >= 0 && at < can || surely >= 0 && heights[surely] <= height {
				t.Fatal(r, height, heights, can, surely)
			}
		}
		spans := traceSpans(r)
		most, _ := kite.Rise(r, r.Base.High, tops(spans)[1:])
		least, _ := kite.Rise(r, r.Base.Low, bottoms(spans)[1:])
		if first := firstAbove(most, height); firstAbove(least, height) != surely || first != can && (first >= 0 || e == api.OK) {
			t.Fatal(r, height, can, surely, e, most, least)
		}
	}
}

// wrongTraces returns traces that are not as defined.
func wrongTraces() []api.KiteTrace {
	var out []api.KiteTrace
	add := func(change func(t *api.KiteTrace)) {
		t := traceT()
		change(&t)
		out = append(out, t)
	}
	for _, s := range wrongSpans(-5000, 5000) {
		add(func(t *api.KiteTrace) { t.Base = s })
	}
	for _, s := range wrongSpans(-900, 500) {
		for mark := range 3 {
			add(func(t *api.KiteTrace) { t.Marks[mark].Temp = s })
		}
	}
	for _, pressures := range [][3]int{
		{100000, 70000, 60000}, {75000, 75000, 60000}, {75000, 75001, 60000}, {75000, 70000, 70000}, {75000, 70000, 70001}, {75000, 70000, 72000},
		{75000, 70000, 0}, {75000, 70000, -1}, {75000, 0, -1}, {0, -1, -2}, {math.MaxInt, 70000, 60000}, {75000, 70000, math.MinInt}, {75000, math.MinInt, 60000}, {math.MinInt, 70000, 60000}, {60000, 70000, 75000},
	} {
		add(func(t *api.KiteTrace) {
			for i, p := range pressures {
				t.Marks[i].Pressure = p
			}
		})
	}
	nine := eight()
	nine.Marks = slices.Insert(nine.Marks, 1, api.KiteMark{Pressure: 90000})
	return append(out, api.KiteTrace{}, api.KiteTrace{Marks: []api.KiteMark{}}, traceOf(0), traceOf(100000), traceOf(-1), nine)
}

// TestTraceErrors is for P7.2 and P7.3: traces, and numbers of them, that are not as defined.
func TestTraceErrors(t *testing.T) {
	refused := func(r api.KiteTrace, base int, temps ...int) {
		if n, e := kite.Rise(r, base, temps); len(n) != 0 || e != api.ErrArg {
			t.Error(r, base, temps, n, e)
		}
	}
	for i, r := range wrongTraces() {
		if s, e := kite.Levels(r); len(s) != 0 || e != api.ErrArg {
			t.Error(i, s, e)
		}
		for _, height := range []int{0, 99999, math.MaxInt} {
			if can, surely, e := kite.Above(r, height); can != 0 || surely != 0 || e != api.ErrArg {
				t.Error(i, can, surely, e)
			}
		}
		refused(r, 105, 155, 125, 50)
		var least, most []int
		for _, m := range r.Marks {
			least, most = append(least, m.Temp.Low), append(most, m.Temp.High)
		}
		refused(r, r.Base.Low, least...)
		refused(r, r.Base.High, most...)
	}
	for _, base := range []int{99, 111, 0, -105, math.MaxInt, math.MinInt} {
		refused(traceT(), base, 155, 125, 50)
	}
	for _, temps := range [][]int{
		nil, {}, {155}, {155, 125}, {155, 125, 50, 50}, {155, 125, 50, 0},
		{149, 125, 50}, {161, 125, 50}, {155, 119, 50}, {155, 131, 50}, {155, 125, 39}, {155, 125, 61},
		{math.MaxInt, 125, 50}, {155, math.MinInt, 50}, {155, 125, math.MaxInt}, {50, 125, 155},
	} {
		refused(traceT(), 105, temps...)
	}
	for _, r := range []api.KiteTrace{traceT(), eight(), traceOf(1), traceOf(99999)} {
		spans := traceSpans(r)
		for _, list := range [][]int{bottoms(spans), tops(spans)} {
			if n, e := kite.Rise(r, list[0], list[1:]); len(n) != len(r.Marks) || e != api.OK {
				t.Error(r, list, n, e)
			}
		}
	}
}
