package cone_test

import (
	"fmt"
	"math"
	"slices"
	"testing"

	"isobar/api"
	"isobar/cone"
)

// strange returns a number that is often far out of range.
func (d dicer) strange() int {
	return d.among(math.MinInt, math.MinInt+1, math.MinInt32, -100000, -2, -1, 0, 1, 2, 5, 6, 7, 15, 45, 300, 301, 600, 1440, 1441, 2880, 2881, 10000, 10080, 10081, 20000, 20001, 50000, 50001, 99999, 100000, math.MaxInt32, math.MaxInt-1, math.MaxInt)
}

// strangeSpan returns a span that is often not one.
func (d dicer) strangeSpan() api.Span { return span(d.strange(), d.strange()) }

// question is arguments for all functions.
type question struct {
	w                         api.ConeWatch
	delays, urgent            []int
	port, order, minute, away int
	b                         api.ConeBoat
}

// strangeQuestion returns arguments some of which are strange.
func (d dicer) strangeQuestion() question {
	q := question{w: watchW(), delays: delaysW(), urgent: []int{1, 3}, order: d.from(15, 45), minute: d.from(700, 1600), away: d.from(0, 9000)}
	if d.IntN(3) == 0 {
		q.w = d.stormy(d.large())
		q.delays, q.urgent, q.port = d.truth(q.w), subsets(len(q.w.Reports))[1:][d.IntN(1<<len(q.w.Reports)-1)], d.IntN(len(q.w.Ports))
		q.order = d.of(q.w.Ports[q.port].Order)
	}
	q.b = d.boat(q.minute, 300, 9000, 9000)
	r, k, p := &q.w.Reports[d.IntN(len(q.w.Reports))], api.ConeLink{}, &q.w.Ports[d.IntN(len(q.w.Ports))]
	for _, change := range []func(){
		func() { q.w.Stations = d.strange() },
		func() { q.w.Fall = d.strange() },
		func() { q.w.Window = d.strange() },
		func() { q.w.Hold = d.strange() },
		func() { q.w.Dawn = d.strange() },
		func() { q.w.Dusk = d.strange() },
		func() { r.Station = d.strange() },
		func() { r.Taken = d.strange() },
		func() { r.Pressure = d.strange() },
		func() { r.Delay = d.strangeSpan() },
		func() { r.Urgent = d.strange() },
		func() { r.Cost = d.strange() },
		func() {
			k = api.ConeLink{A: d.strange(), B: d.strange(), Diff: d.strange()}
			q.w.Links = append(q.w.Links, k)
		},
		func() { p.Order = d.strangeSpan() },
		func() { p.Day, p.Night = d.strange(), d.strange() },
		func() { q.w.Reports = q.w.Reports[:d.IntN(len(q.w.Reports)+1)] },
		func() { q.w.Reports = slices.Repeat(q.w.Reports, d.IntN(4)) },
		func() { q.w.Links = slices.Repeat(q.w.Links, d.IntN(4)) },
		func() { q.w.Ports = slices.Repeat(q.w.Ports, d.IntN(4)) },
		func() { q.delays = append(q.delays, d.strange()) },
		func() { q.delays = q.delays[:len(q.delays)-1] },
		func() { q.delays[0] = d.strange() },
		func() { q.urgent = append(q.urgent, d.strange()) },
		func() { q.urgent[0] = d.strange() },
		func() { q.port = d.strange() },
		func() { q.order = d.strange() },
		func() { q.minute = d.strange() },
		func() { q.away = d.strange() },
		func() { q.b.Leave = d.strangeSpan() },
		func() { q.b.Away = d.strangeSpan() },
	} {
		if d.IntN(30) == 0 {
			change()
		}
	}
	return q
}

// answer is what a function returned: all results but the error, whether they are zero values, and the error.
type answer struct {
	name string
	text string
	zero bool
	e    api.Errno
}

// askAll calls all functions.
func askAll(q question) []answer {
	var out []answer
	add := func(name string, zero bool, e api.Errno, results ...any) {
		out = append(out, answer{name, fmt.Sprint(results...), zero, e})
	}
	add("Check", true, cone.Check(q.w))
	alarms, e := cone.Alarms(q.w)
	add("Alarms", len(alarms) == 0, e, alarms)
	n, e := cone.Play(q.w, q.delays)
	add("Play", n == 0, e, n)
	can, sure, e := cone.See(q.w)
	add("See", can == 0 && sure == 0, e, can, sure)
	is, e := cone.Hoisted(q.w, q.delays, q.port, q.order, q.minute)
	add("Hoisted", !is, e, is)
	word, e := cone.Up(q.w, q.port, q.minute)
	add("Up", word == 0, e, word)
	is, e = cone.Seen(q.w, q.delays, q.port, q.order, q.minute, q.away)
	add("Seen", !is, e, is)
	word, e = cone.Warned(q.w, q.port, q.b)
	add("Warned", word == 0, e, word)
	is, e = cone.Suffice(q.w, q.urgent, q.minute)
	add("Suffice", !is, e, is)
	best, cost, e := cone.Speed(q.w, q.minute)
	add("Speed", len(best) == 0 && cost == 0, e, best, cost)
	return out
}

// TestAnyArguments is for P0.1 and the rules R2, R4 and R8: whatever the arguments, nothing panics, nothing is changed, and with an error nothing else is returned.
func TestAnyArguments(t *testing.T) {
	d := dice(50)
	results := map[string]map[api.Errno]int{}
	for range 5000 {
		q := d.strangeQuestion()
		before := fmt.Sprintf("%#v", q)
		got := askAll(q)
		if after := fmt.Sprintf("%#v", q); after != before {
			t.Fatal(before, after)
		}
		if again := askAll(q); !slices.Equal(again, got) {
			t.Fatal(before, got, again)
		}
		for _, a := range got {
			if a.e != api.OK && !a.zero {
				t.Fatal(before, a)
			}
			if results[a.name] == nil {
				results[a.name] = map[api.Errno]int{}
			}
			results[a.name][a.e]++
		}
	}
	for name, counts := range results {
		kinds := 2
		if name == "Play" || name == "See" || name == "Speed" {
			kinds = 3
		}
		if counts[api.OK] < 1000 || len(counts) != kinds {
			t.Error("other kinds of results:", name, counts)
		}
	}
}

// TestGreatest is for P0.1: watches with all numbers as great, or as small, as they can be are answered.
func TestGreatest(t *testing.T) {
	g := greatest()
	g.Stations, g.Fall, g.Links[0].Diff = 6, 1, 1
	g.Reports[0] = report(4, 10080, 0, span(0, 2880), 0, 10000)
	if can, sure, e := cone.See(g); can != 0 || sure != 0 || e != api.ErrNone {
		t.Error(can, sure, e)
	}
	for i := range g.Reports {
		g.Reports[i].Delay = span(0, 2879)
	}
	if can, sure, e := cone.See(g); can != 10080 || sure != 12959 || e != api.OK {
		t.Error(can, sure, e)
	}
	g.Ports[2].Order = span(2880, 2880)
	for i, x := range []struct {
		port, minute int
		want         api.ConeWord
	}{{3, 12659, never}, {3, 12660, may}, {3, 15839, may}, {3, 15840, never}, {3, 20000, never}, {2, 12959, never}, {2, 12960, may}, {2, 15838, may}, {2, 15839, surely}, {2, 15840, never}} {
		if got, e := cone.Up(g, x.port, x.minute); got != x.want || e != api.OK {
			t.Error(i, got, e)
		}
	}
	if best, cost, e := cone.Speed(g, 20000); len(best) != 0 || cost != 0 || e != api.OK {
		t.Error(best, cost, e)
	}
	for i, q := range []question{{w: g, delays: slices.Repeat([]int{2879}, 9), urgent: []int{0, 1, 2, 3, 4, 5, 6, 7, 8}, port: 3, order: 2880, minute: 20000, away: 50000, b: boat(span(19700, 20000), span(0, 50000))}, {w: least(), delays: []int{0}, urgent: []int{0}}} {
		for _, a := range askAll(q) {
			if a.e != api.OK && a.e != api.ErrNone {
				t.Error(i, a)
			}
		}
	}
}

// TestNoSharing is for the rules R3 and R4: results share no memory with arguments, with each other or with those of other calls, and nil is the same as empty.
func TestNoSharing(t *testing.T) {
	w := watchW()
	spare := make([]api.ConeReport, 4, 20)
	copy(spare, w.Reports)
	w.Reports = spare
	urgent := make([]int, 2, 20)
	urgent[0], urgent[1] = 1, 3
	q := question{w: w, delays: delaysW(), urgent: urgent, order: 30, minute: 850, away: 5, b: boat(span(900, 910), span(5, 6))}
	before := fmt.Sprintf("%#v %v", spare[:20], urgent[:20])
	want := askAll(q)
	for range 2 {
		alarms, _ := cone.Alarms(w)
		for i := range alarms[:cap(alarms)] {
			alarms[:cap(alarms)][i] = alarm(-7, -7)
		}
		best, _, _ := cone.Speed(w, 850)
		for i := range best[:cap(best)] {
			best[:cap(best)][i] = -7
		}
	}
	if got := askAll(q); !slices.Equal(got, want) || fmt.Sprintf("%#v %v", spare[:20], urgent[:20]) != before {
		t.Error(got, want)
	}
	bare, empty := least(), least()
	bare.Reports, empty.Reports, empty.Links = nil, []api.ConeReport{}, []api.ConeLink{}
	a := askAll(question{w: bare})
	b := askAll(question{w: empty, delays: []int{}, urgent: []int{}})
	if !slices.Equal(a, b) {
		t.Error(a, b)
	}
}
