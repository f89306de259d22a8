package score_test

import (
	"fmt"
	"math"
	"slices"
	"testing"

	"isobar/api"
	"isobar/score"
)

// strange returns a number that is often far out of range.
func (d dicer) strange() int {
	return d.among(math.MinInt, math.MinInt+1, math.MinInt32, -100000001, -100000000, -100001, -10000, -100, -2, -1, 0, 1, 2, 3, 4, 5, 7, 8, 9, 20, 50, 99, 100, 101, 1000, 1001, 10000, 99990000, 99990001, 100000, 100001, 100000000, 100000001, math.MaxInt32, math.MaxInt-1, math.MaxInt)
}

// question is arguments for all functions.
type question struct {
	parts, belief               []int
	class, step, district, each int
	s                           api.ScoreSuite
	a, b                        [][][]int
	g                           api.ScoreTable
	p                           api.ScorePaper
	sofar                       int
}

// rightQuestion returns arguments that are as defined.
func (d dicer) rightQuestion() question {
	q := question{s: d.suite(3, 3), step: d.among(steps()[2:]...), each: d.sofar(), p: d.paper(), sofar: d.sofar()}
	q.a, q.b = d.forecast(q.s), d.forecast(q.s)
	q.parts, q.belief = d.parts(q.s.Classes), d.parts(q.s.Classes)
	q.class, q.district = d.IntN(q.s.Classes), d.IntN(len(q.s.Weights))
	q.g = ownTable(d.from(2, 3), d.among(tableSteps()[2:]...))
	if d.IntN(2) == 0 {
		q.g.Points[0][0] += 20001
	}
	return q
}

// strangeForecast changes a forecast that has days.
func (d dicer) strangeForecast(f [][][]int) [][][]int {
	switch d.IntN(4) {
	case 0:
		return f[1:]
	case 1:
		return append(f, f[0])
	case 2:
		f[0] = f[0][1:]
	default:
		f[0][0] = []int{d.strange(), d.strange(), d.strange()}[:d.from(0, 3)]
	}
	return f
}

// strangeQuestion returns arguments some of which are strange.
func (d dicer) strangeQuestion() question {
	q := d.rightQuestion()
	for _, change := range []func(){
		func() { q.parts = append(slices.Clone(q.parts), d.strange()) },
		func() { q.parts = []int{d.strange(), d.strange()} },
		func() { q.belief = q.belief[:d.IntN(len(q.belief))] },
		func() { q.belief = []int{d.strange(), d.strange(), d.strange()} },
		func() { q.class = d.strange() },
		func() { q.step = d.strange() },
		func() { q.district = d.strange() },
		func() { q.each = d.strange() },
		func() { q.sofar = d.strange() },
		func() { q.s.Classes = d.strange() },
		func() { q.s.Weights = append(q.s.Weights, d.strange()) },
		func() { q.s.Weights[0] = d.strange() },
		func() { q.s.Weights = q.s.Weights[1:] },
		func() {
			if len(q.s.Seen) > 0 {
				q.s.Seen[0][0] = d.strange()
			}
		},
		func() { q.s.Seen = slices.Repeat(q.s.Seen, d.IntN(4)) },
		func() { q.s.Seen = append(q.s.Seen, []int{d.strange()}) },
		func() {
			if len(q.a) > 0 {
				q.a = d.strangeForecast(q.a)
			}
		},
		func() {
			if len(q.b) > 0 {
				q.b = d.strangeForecast(q.b)
			}
		},
		func() { q.g.Classes = d.strange() },
		func() { q.g.Step = d.strange() },
		func() { q.g.Points = q.g.Points[1:] },
		func() { q.g.Points = append(q.g.Points, nil) },
		func() { q.g.Points[0] = []int{d.strange(), d.strange()} },
		func() { q.p.Base = d.strange() },
		func() { q.p.Rate = d.strange() },
		func() { q.p.Least = d.strange() },
	} {
		if d.IntN(26) == 0 {
			change()
		}
	}
	return q
}

// answer is what a function returned: all results but the error, whether they are zero values, and the error.
type answer struct {
	name string
	text string
	zero bool
	e    api.Errno
}

// askAll calls all functions.
func askAll(q question) []answer {
	var out []answer
	add := func(name string, zero bool, e api.Errno, results ...any) {
		out = append(out, answer{name, fmt.Sprint(results...), zero, e})
	}
	n, e := score.Gain(q.parts, q.class)
	add("Gain", n == 0, e, n)
	n, loses, e := score.Hope(q.belief, q.parts)
	add("Hope", n == 0 && loses == 0, e, n, loses)
	parts, e := score.Best(q.belief, q.step)
	add("Best", len(parts) == 0, e, parts)
	add("Check", true, score.Check(q.s))
	ends, e := score.Total(q.s, q.a)
	add("Total", ends == span(0, 0), e, ends)
	parts, n, e = score.Climate(q.s, q.district)
	add("Climate", len(parts) == 0 && n == 0, e, parts, n)
	ends, e = score.Skill(q.s, q.a)
	add("Skill", ends == span(0, 0), e, ends)
	word, e := score.Beats(q.s, q.a, q.b)
	add("Beats", word == 0, e, word)
	parts, most, n, e := score.Game(q.g)
	add("Game", len(parts) == 0 && len(most) == 0 && n == 0, e, parts, most, n)
	n, e = score.Pay(q.p, q.each)
	add("Pay", n == 0, e, n)
	parts, n, e = score.Tempt(q.p, q.sofar, q.belief, q.step)
	add("Tempt", len(parts) == 0 && n == 0, e, parts, n)
	return out
}

// TestAnyArguments is for P0.1 and the rules R2, R4 and R8: whatever the arguments, nothing panics, nothing is changed, and with an error nothing else is returned.
func TestAnyArguments(t *testing.T) {
	d := dice(70)
	results := map[string]map[api.Errno]int{}
	for range 1000 {
		q := d.strangeQuestion()
		before := fmt.Sprintf("%#v", q)
		got := askAll(q)
		if after := fmt.Sprintf("%#v", q); after != before {
			t.Fatal(before, after)
		}
		if again := askAll(q); !slices.Equal(again, got) {
			t.Fatal(before, got, again)
		}
		for _, a := range got {
			if a.e != api.OK && !a.zero {
				t.Fatal(before, a)
			}
			if results[a.name] == nil {
				results[a.name] = map[api.Errno]int{}
			}
			results[a.name][a.e]++
		}
	}
	for name, counts := range results {
		kinds := 2
		if name == "Game" {
			kinds = 3
		}
		if counts[api.OK] < 100 || counts[api.ErrArg] < 10 || len(counts) != kinds {
			t.Error("other kinds of results:", name, counts)
		}
	}
}

// TestGreatest is for P0.1: what is as great, or as small, as it can be is answered.
func TestGreatest(t *testing.T) {
	g := greatest()
	big := ownTable(3, 5)
	for _, row := range big.Points {
		row[0], row[1], row[2] = row[0]*10, row[1]*10, row[2]*10
	}
	flat := api.ScoreTable{Classes: 3, Step: 5, Points: slices.Repeat([][]int{{100000, -100000, 100000}}, 231)}
	for i, q := range []question{
		{parts: []int{0, 0, 100}, belief: []int{0, 0, 100}, class: 2, step: 1, district: 2, each: 100000000, s: g, a: everyDay(g, []int{100, 0, 0}, []int{0, 100, 0}, []int{0, 0, 100}), b: everyDay(g, []int{0, 0, 100}, []int{0, 0, 100}, []int{0, 0, 100}), g: big, p: paper(100000, 1000, 100000), sofar: 99990000},
		{parts: []int{100, 0}, belief: []int{0, 100}, step: 100, each: -100000000, s: least(), g: flat, sofar: -99990000},
	} {
		for _, a := range askAll(q) {
			if a.e != api.OK && (a.e != api.ErrNone || a.name != "Game") {
				t.Error(i, a)
			}
		}
	}
}

// TestNoSharing is for the rules R3 and R4: results share no memory with arguments, with each other or with those of other calls, and nil is the same as empty.
func TestNoSharing(t *testing.T) {
	spare := make([]int, 3, 10)
	copy(spare, []int{60, 30, 10})
	q := question{parts: spare, belief: spare, step: 50, district: 1, each: 5, s: suiteS(), a: forecastF(), b: forecastH(), g: tableG(), p: paper(100, 100, 100)}
	before := fmt.Sprintf("%#v %v", q, spare[:10])
	want := askAll(q)
	spoil := func(list []int) {
		for i := range list[:cap(list)] {
			list[:cap(list)][i] = -7
		}
	}
	for range 2 {
		best, _ := score.Best(spare, 10)
		spoil(best)
		climate, _, _ := score.Climate(q.s, 0)
		spoil(climate)
		belief, most, _, _ := score.Game(q.g)
		spoil(belief)
		if !slices.Equal(most, []int{0, 100}) {
			t.Error(most)
		}
		spoil(most)
		tempting, _, _ := score.Tempt(q.p, 0, spare, 10)
		spoil(tempting)
	}
	if got := askAll(q); !slices.Equal(got, want) || fmt.Sprintf("%#v %v", q, spare[:10]) != before {
		t.Error(got, want)
	}
	empty := least()
	empty.Seen = [][]int{}
	a := askAll(question{s: least()})
	b := askAll(question{s: empty, a: [][][]int{}, b: [][][]int{}, parts: []int{}, belief: []int{}})
	if !slices.Equal(a, b) {
		t.Error(a, b)
	}
}
