package watch_test

import (
	"fmt"
	"math"
	"slices"
	"testing"

	"isobar/api"
	"isobar/watch"
)

// strange returns a number that is often far out of range.
func (d dicer) strange() int {
	return d.among(math.MinInt, math.MinInt+1, math.MinInt32, -100000, -2, -1, 0, 1, 2, 3, 5, 6, 7, 9, 10, 11, 17, 18, 19, 20, 60, 61, 400, 401, 1000, 999999, 1000000, 1000001, math.MaxInt32, math.MaxInt/2+1, math.MaxInt-1, math.MaxInt)
}

// strangeSpan returns a span that is often not one.
func (d dicer) strangeSpan() api.Span { return span(d.strange(), d.strange()) }

// question is arguments for all functions.
type question struct {
	l                       api.WatchLog
	base, days, least, odds int
	r                       api.WatchRound
	order, legs             []int
}

// strangeQuestion returns arguments some of which are strange.
func (d dicer) strangeQuestion() question {
	q := question{l: copyOfLog(logL()), base: d.from(2, 10), days: d.from(0, 18), least: d.from(0, 19), odds: d.from(1, 1000000), r: roundR(), order: []int{0, 1, 2}, legs: []int{3, 2, 1}}
	if d.IntN(3) == 0 {
		q.l, q.r = d.log(d.from(2, 10), 18), d.round(d.from(1, 6), 60, 10, 60)
		q.order = d.order(q.r)
		q.legs = d.legs(q.r, q.order)
	}
	s, row := &q.r.Stations[d.IntN(len(q.r.Stations))], d.IntN(len(q.r.Roads))
	for _, change := range []func(){
		func() { q.l.Base = d.strange() },
		func() { q.l.Odds = d.strange() },
		func() { q.l.Own = append(q.l.Own, d.strange()) },
		func() { q.l.Own, q.l.Paper = append(q.l.Own, d.strange()), append(q.l.Paper, d.strange()) },
		func() { q.l.Paper = q.l.Paper[:d.IntN(len(q.l.Paper)+1)] },
		func() { q.l.Own, q.l.Paper = slices.Repeat(q.l.Own, 4), slices.Repeat(q.l.Paper, 4) },
		func() { q.base = d.strange() },
		func() { q.days = d.strange() },
		func() { q.least = d.strange() },
		func() { q.odds = d.strange() },
		func() { q.r.Start = d.strange() },
		func() { s.Stay = d.strange() },
		func() { s.Due = d.strange() },
		func() { q.r.Stations = slices.Repeat(q.r.Stations, d.IntN(4)) },
		func() { q.r.Stations = q.r.Stations[:d.IntN(len(q.r.Stations)+1)] },
		func() { q.r.Roads[row][d.IntN(len(q.r.Roads[row]))] = d.strangeSpan() },
		func() { q.r.Roads[row] = q.r.Roads[row][:d.IntN(len(q.r.Roads[row])+1)] },
		func() { q.r.Roads = q.r.Roads[:d.IntN(len(q.r.Roads)+1)] },
		func() { q.r.Roads = append(q.r.Roads, nil) },
		func() { q.order = append(slices.Clip(q.order), d.strange()) },
		func() { q.order = q.order[:d.IntN(len(q.order)+1)] },
		func() { q.legs = append(slices.Clip(q.legs), d.strange()) },
		func() { q.legs = q.legs[:d.IntN(len(q.legs)+1)] },
		func() { q.legs = slices.Repeat([]int{d.strange()}, len(q.legs)) },
	} {
		if d.IntN(30) == 0 {
			change()
		}
	}
	return q
}

// answer is what a function returned: all results but the error, whether they are zero values, and the error.
type answer struct {
	name string
	text string
	zero bool
	e    api.Errno
}

// askAll calls all functions.
func askAll(q question) []answer {
	var out []answer
	add := func(name string, zero bool, e api.Errno, results ...any) {
		out = append(out, answer{name, fmt.Sprint(results...), zero, e})
	}
	add("Check", true, watch.Check(q.l))
	days, agreements, favourite, e := watch.Agree(q.l)
	add("Agree", days == 0 && agreements == 0 && favourite == 0, e, days, agreements, favourite)
	verdict, e := watch.Judge(q.l)
	add("Judge", verdict == 0, e, verdict)
	n, e := watch.Chance(q.base, q.days, q.least)
	add("Chance", n == 0, e, n)
	n, e = watch.Favour(q.base, q.days, q.least)
	add("Favour", n == 0, e, n)
	agreements, favourite, e = watch.Need(q.base, q.days, q.odds)
	add("Need", agreements == 0 && favourite == 0, e, agreements, favourite)
	add("CheckRound", true, watch.CheckRound(q.r))
	comes, end, e := watch.Visit(q.r, q.order, q.legs)
	add("Visit", len(comes) == 0 && end == 0, e, comes, end)
	spans, last, e := watch.Known(q.r, q.order)
	add("Known", len(spans) == 0 && last == span(0, 0), e, spans, last)
	is, e := watch.Sure(q.r, q.order)
	add("Sure", !is, e, is)
	best, end, e := watch.Best(q.r)
	add("Best", len(best) == 0 && end == 0, e, best, end)
	return out
}

// TestAnyArguments is for P0.1 and the rules R2, R4 and R8: whatever the arguments, nothing panics, nothing is changed, and with an error nothing else is returned.
func TestAnyArguments(t *testing.T) {
	d := dice(18)
	results := map[string]map[api.Errno]int{}
	for range 5000 {
		q := d.strangeQuestion()
		before := fmt.Sprintf("%#v", q)
		got := askAll(q)
		if after := fmt.Sprintf("%#v", q); after != before {
			t.Fatal(before, after)
		}
		if again := askAll(q); !slices.Equal(again, got) {
			t.Fatal(before, got, again)
		}
		for _, a := range got {
			if a.e != api.OK && !a.zero {
				t.Fatal(before, a)
			}
			if results[a.name] == nil {
				results[a.name] = map[api.Errno]int{}
			}
			results[a.name][a.e]++
		}
	}
	for name, counts := range results {
		if counts[api.OK] < 1000 || counts[api.ErrArg] < 100 || len(counts) != 2 {
			t.Error("other kinds of results:", name, counts)
		}
	}
	if len(results) != 11 {
		t.Error("not all functions:", results)
	}
}

// TestGreatest is for P0.1: logs and rounds with all numbers as great, or as small, as they can be are answered.
func TestGreatest(t *testing.T) {
	order := []int{5, 4, 3, 2, 1, 0}
	for i, q := range []question{
		{l: longest(), base: 10, days: 18, least: 19, odds: 1000000, r: largest(), order: order, legs: slices.Repeat([]int{60}, 6)},
		{l: api.WatchLog{Base: 2, Odds: 1}, base: 2, odds: 1, r: smallest()},
		{l: api.WatchLog{Base: 10, Odds: 1000000, Own: longest().Own, Paper: longest().Own}, base: 10, days: 18, odds: 1, r: roundOf(0, span(0, 60), slices.Repeat([]int{0, 400}, 6)...), order: order, legs: slices.Repeat([]int{0}, 6)},
	} {
		for _, a := range askAll(q) {
			if a.e != api.OK {
				t.Error(i, a)
			}
		}
	}
}

// TestNoSharing is for the rules R3 and R4: results share no memory with arguments, with each other or with those of other calls, and nil is the same as empty.
func TestNoSharing(t *testing.T) {
	order := make([]int, 2, 20)
	order[0], order[1] = 0, 1
	legs := make([]int, 2, 20)
	legs[0], legs[1] = 2, 2
	q := question{l: logL(), base: 10, days: 6, least: 5, odds: 1000, r: roundR(), order: order, legs: legs}
	before := fmt.Sprintf("%#v %v %v", q, order[:20], legs[:20])
	want := askAll(q)
	for range 2 {
		comes, _, _ := watch.Visit(q.r, order, legs)
		best, _, _ := watch.Best(q.r)
		for _, numbers := range [][]int{comes[:cap(comes)], best[:cap(best)]} {
			for i := range numbers {
				numbers[i] = -7
			}
		}
		spans, _, _ := watch.Known(q.r, order)
		for i := range spans[:cap(spans)] {
			spans[:cap(spans)][i] = span(-7, -7)
		}
	}
	if got := askAll(q); !slices.Equal(got, want) || fmt.Sprintf("%#v %v %v", q, order[:20], legs[:20]) != before {
		t.Error(got, want)
	}
	bare := question{l: api.WatchLog{Base: 2, Odds: 1}, r: smallest()}
	empty := question{l: api.WatchLog{Base: 2, Odds: 1, Own: []int{}, Paper: []int{}}, r: smallest(), order: []int{}, legs: []int{}}
	if a, b := askAll(bare), askAll(empty); !slices.Equal(a, b) {
		t.Error(a, b)
	}
	none, nothing := api.WatchRound{}, api.WatchRound{Stations: []api.WatchStation{}, Roads: [][]api.Span{}}
	if a, b := askAll(question{r: none}), askAll(question{r: nothing}); !slices.Equal(a, b) {
		t.Error(a, b)
	}
}

// TestObservers is for P0.9: an observer is convicted only where chance is excluded by the printed odds, whatever the paper printed; the inspector comes in time with the round that is returned.
func TestObservers(t *testing.T) {
	d := dice(19)
	guilty, visits := 0, 0
	for range 5000 {
		l := d.log(d.from(2, 10), 18)
		v, e := watch.Judge(l)
		if e != api.OK {
			t.Fatal(l, e)
		}
		days, agreements, favourite := agreeOf(l)
		all := allOf(l.Base, days)
		if v == copied && chanceOf(l.Base, days, agreements) > all/l.Odds/2 || v == invented && favourOf(l.Base, days, favourite) > all/l.Odds/2 {
			t.Fatal(l, v)
		}
		if v != open {
			guilty++
		}
		r := d.round(d.from(1, 6), d.among(5, 20, 60), d.among(0, 5, 60), d.among(10, 30, 66))
		order, end, e := watch.Best(r)
		if e != api.OK {
			t.Fatal(r, e)
		}
		for range 4 {
			legs := d.legs(r, order)
			if _, last := visitOf(r, order, legs); !inTime(r, order, legs) || last > end {
				t.Fatal(r, order, legs)
			}
			visits += len(order)
		}
	}
	if guilty < 1000 || visits < 10000 {
		t.Error("too few convictions or visits:", guilty, visits)
	}
}
