package low_test

import (
	"fmt"
	"math"
	"slices"
	"testing"

	"isobar/api"
	"isobar/low"
)

// strange returns a number that is often far out of range.
func (d dicer) strange() int {
	return d.among(math.MinInt, math.MinInt+1, math.MinInt32, -100000, -2, -1, 0, 1, 2, 3, 4, 12, 13, 50, 51, 100, 101, 200, 201, 1000, 1001, 74000, 99999, 100000, math.MaxInt32, math.MaxInt-1, math.MaxInt)
}

// strangeSpan returns a span that is often not one.
func (d dicer) strangeSpan() api.Span { return span(d.strange(), d.strange()) }

// question is arguments for all functions.
type question struct {
	s              api.LowSuite
	t              api.LowTruth
	at, low, hours int
}

// strangeQuestion returns arguments some of which are strange.
func (d dicer) strangeQuestion() question {
	q := question{s: suiteS(), t: truthS(), at: d.IntN(3), low: d.IntN(2), hours: d.IntN(201)}
	if d.IntN(3) == 0 {
		c := d.large()
		c.lows = 2
		q.s, q.t = d.history(c)
	}
	some := func(l [][]int) *[]int { return &l[d.IntN(len(l))] }
	for _, change := range []func(){
		func() { d.spoil(&q.s) },
		func() { q.s.Maps = q.s.Maps[:d.IntN(len(q.s.Maps)+1)] },
		func() { q.s.Maps = slices.Repeat(q.s.Maps, d.IntN(4)) },
		func() { q.s.Maps[0].At = d.strange() },
		func() { q.s.Maps[len(q.s.Maps)-1].At = d.strange() },
		func() { q.s.Maps[0].Spots = slices.Repeat(q.s.Maps[0].Spots, d.IntN(4)) },
		func() { q.s.Maps[len(q.s.Maps)-1].Spots = nil },
		func() { q.s.Maps[0].Spots = []api.LowSpot{spot(d.strangeSpan(), d.strangeSpan(), d.strangeSpan())} },
		func() { q.s.Speed = d.strange() },
		func() { q.s.Deepen = d.strange() },
		func() { q.s.Born = d.strange() },
		func() { q.s.Gone = d.strange() },
		func() { q.t.Same = q.t.Same[:d.IntN(len(q.t.Same)+1)] },
		func() { q.t.X = append(q.t.X, nil) },
		func() { q.t.Depth = nil },
		func() { *some(q.t.X) = append(*some(q.t.X), d.strange()) },
		func() { *some(q.t.Same) = []int{d.strange(), d.strange()} },
		func() { *some(q.t.X) = []int{d.strange(), d.strange()} },
		func() { *some(q.t.Depth) = []int{d.strange(), d.strange()} },
		func() { q.at = d.strange() },
		func() { q.low = d.strange() },
		func() { q.hours = d.strange() },
	} {
		if d.IntN(25) == 0 && len(q.s.Maps) > 0 && len(q.t.Same) > 0 && len(q.t.X) > 0 && len(q.t.Depth) > 0 {
			change()
		}
	}
	return q
}

// answer is what a function returned: all results but the error, whether they are zero values, and the error.
type answer struct {
	name string
	text string
	zero bool
	e    api.Errno
}

// askAll calls all functions.
func askAll(q question) []answer {
	var out []answer
	add := func(name string, zero bool, e api.Errno, results ...any) {
		out = append(out, answer{name, fmt.Sprint(results...), zero, e})
	}
	add("Check", true, low.Check(q.s))
	is, e := low.Fits(q.s, q.t)
	add("Fits", !is, e, is)
	n, e := low.Clash(q.s)
	add("Clash", n == 0, e, n)
	list, e := low.Same(q.s, q.at)
	add("Same", len(list) == 0, e, list)
	list, e = low.Births(q.s)
	add("Births", len(list) == 0, e, list)
	list, e = low.Ends(q.s)
	add("Ends", len(list) == 0, e, list)
	paths, e := low.Paths(q.s, q.at, q.low)
	add("Paths", len(paths) == 0, e, paths)
	k, e := low.Where(q.s, q.at, q.low)
	add("Where", k == api.LowSpot{}, e, k)
	k, e = low.Ahead(q.s, q.low, q.hours)
	add("Ahead", k == api.LowSpot{}, e, k)
	n, links, e := low.Fewest(q.s)
	add("Fewest", n == 0 && len(links) == 0, e, n, links)
	n, e = low.Speed(q.s)
	add("Speed", n == 0, e, n)
	return out
}

// TestAnyArguments is for P0.1 and the rules R2, R4 and R8: whatever the arguments, nothing panics, nothing is changed, and with an error nothing else is returned.
func TestAnyArguments(t *testing.T) {
	d := dice(50)
	results := map[string]map[api.Errno]int{}
	for range 3000 {
		q := d.strangeQuestion()
		before := fmt.Sprintf("%#v", q)
		got := askAll(q)
		if after := fmt.Sprintf("%#v", q); after != before {
			t.Fatal(before, after)
		}
		if again := askAll(q); !slices.Equal(again, got) {
			t.Fatal(before, got, again)
		}
		for _, a := range got {
			if a.e != api.OK && !a.zero {
				t.Fatal(before, a)
			}
			if results[a.name] == nil {
				results[a.name] = map[api.Errno]int{}
			}
			results[a.name][a.e]++
		}
	}
	for name, counts := range results {
		if counts[api.OK] == 0 || len(counts) < 2 {
			t.Error("too few kinds of results:", name, counts)
		}
	}
}

// spoilLists changes lists up to their capacity, and checks that it changes no other one of them.
func spoilLists[T comparable](t *testing.T, l [][]T, with T) {
	for i := range l {
		before := fmt.Sprint(l[:i], l[i+1:])
		long := l[i][:cap(l[i])]
		for j := range long {
			long[j] = with
		}
		if after := fmt.Sprint(l[:i], l[i+1:]); after != before {
			t.Error(before, after)
		}
	}
}

// TestNoSharing is for the rules R3 and R4: results share no memory with arguments, with each other or with those of other calls, and nil is the same as empty.
func TestNoSharing(t *testing.T) {
	s := widest()
	spare := make([]api.LowMap, 3, 20)
	copy(spare, s.Maps)
	s.Maps = spare
	q := question{s: s, at: 1, low: 1, hours: 5}
	before := fmt.Sprintf("%#v", spare[:20])
	want := askAll(q)
	for range 2 {
		_, list, _ := askAbout(s)
		for _, l := range list {
			spoilLists(t, l, -7)
		}
		paths, _ := low.Paths(s, 0, 0)
		spoilLists(t, paths, -7)
		_, links, _ := low.Fewest(s)
		spoilLists(t, links, -7)
	}
	if got := askAll(q); !slices.Equal(got, want) || fmt.Sprintf("%#v", spare[:20]) != before {
		t.Error(got, want)
	}
	same := lists(s, -1)
	truth := api.LowTruth{Same: same, X: lists(s, 100), Y: lists(s, 100), Depth: lists(s, 99999)}
	if is, e := low.Fits(s, truth); !is || e != api.OK || !equal(same, lists(s, -1)) {
		t.Error(is, e, same)
	}
	bare := api.LowSuite{Maps: []api.LowMap{{}}}
	empty := api.LowSuite{Maps: []api.LowMap{{Spots: []api.LowSpot{}}}}
	none := api.LowTruth{Same: [][]int{nil}, X: [][]int{{}}, Y: [][]int{nil}, Depth: [][]int{nil}}
	a := askAll(question{s: bare, t: none})
	if b := askAll(question{s: empty, t: none}); !slices.Equal(a, b) {
		t.Error(a, b)
	}
}
