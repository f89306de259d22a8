package bureau_test

import (
	"fmt"
	"math"
	"slices"
	"strings"
	"testing"

	"isobar/api"
	"isobar/bureau"
)

// wild returns a number that is often far out of range.
func (d dicer) wild() int {
	return d.among(math.MinInt, math.MinInt+1, math.MinInt32, -100000, -2000, -2, -1, 0, 0, 0, 1, 1, 2, 3, 4, 5, 7, 8, 9, 29, 30, 99, 100, 480, 1439, 1440, 75810, 76000, 99999, 100000, math.MaxInt32, math.MaxInt/2+1, math.MaxInt-1, math.MaxInt)
}

// wildSpan returns a span that is often not one.
func (d dicer) wildSpan() api.Span { return span(d.wild(), d.wild()) }

// call is a method with arguments that are written as a text, and what it returned: all results but the error, whether they are zero values, and the error.
type call struct {
	name string
	act  bool
	do   func(b *bureau.Bureau) (string, bool, api.Errno)
}

// calls returns calls of all methods, with some arguments that fit a suite and some that fit none.
func (d dicer) calls(s api.BureauSuite) []call {
	or := func(n int) int {
		if d.IntN(8) == 0 {
			return d.wild()
		}
		return n
	}
	orSpan := func(p api.Span) api.Span { return span(or(p.Low), or(p.High)) }
	station, day, district, point, level := or(d.IntN(len(s.Stations))), or(d.IntN(s.Days)), or(d.IntN(len(s.Weights))), or(d.IntN(s.Wide*s.Rows)), or(d.from(75900, 76100))
	r := d.reading(s, d.IntN(len(s.Stations)))
	r = api.GlassReading{Day: or(r.Day), Minute: or(r.Minute), Clock: api.GlassClock(or(int(r.Clock))), Mercury: or(r.Mercury), Attached: orSpan(r.Attached), Dry: orSpan(r.Dry), Wet: orSpan(r.Wet)}
	copies := d.telegram(s.Code, sent(d.message(s.Code, d.from(75900, 76100))))
	for i := range copies {
		if d.IntN(8) == 0 {
			copies[i] = append(copies[i][:d.IntN(len(copies[i]))], d.word())
		}
	}
	p := orSpan(d.around(d.from(75900, 76100), 50, span(0, 99999)))
	c := d.report(s.Watch.Stations)
	c = api.ConeReport{Station: or(c.Station), Taken: or(c.Taken), Pressure: or(c.Pressure), Delay: orSpan(c.Delay), Urgent: or(c.Urgent), Cost: or(c.Cost)}
	parts := d.parts(s.Classes)
	parts[d.IntN(len(parts))] = or(parts[0])
	set, ship, port, minute := or(d.from(1, 1<<s.Classes-1)), or(d.IntN(100)), or(d.IntN(len(s.Watch.Ports)+1)), or(d.IntN(3000))
	line := d.line(s)
	act := func(name string, do func(b *bureau.Bureau) api.Errno) call {
		return call{name, true, func(b *bureau.Bureau) (string, bool, api.Errno) { return "", true, do(b) }}
	}
	number := func(name string, do func(b *bureau.Bureau) (int, api.Errno)) call {
		return call{name, false, func(b *bureau.Bureau) (string, bool, api.Errno) {
			n, e := do(b)
			return text(n), n == 0, e
		}}
	}
	ends := func(name string, do func(b *bureau.Bureau) (api.Span, api.Errno)) call {
		return call{name, false, func(b *bureau.Bureau) (string, bool, api.Errno) {
			p, e := do(b)
			return text(p.Low, p.High), p == span(0, 0), e
		}}
	}
	return []call{
		act("Read", func(b *bureau.Bureau) api.Errno { return b.Read(station, r) }),
		act("Wire", func(b *bureau.Bureau) api.Errno { return b.Wire(station, day, copies) }),
		act("Ship", func(b *bureau.Bureau) api.Errno { return b.Ship(ship, day, point, p) }),
		act("Report", func(b *bureau.Bureau) api.Errno { return b.Report(c) }),
		act("State", func(b *bureau.Bureau) api.Errno { return b.State(day, district, parts) }),
		act("Came", func(b *bureau.Bureau) api.Errno { return b.Came(day, district, set) }),
		{"Draw", false, func(b *bureau.Bureau) (string, bool, api.Errno) {
			f, e := b.Draw(day)
			return fmt.Sprint(f), f.Wide == 0 && len(f.Values) == 0, e
		}},
		number("Low", func(b *bureau.Bureau) (int, api.Errno) { w, e := b.Low(day, point, level); return int(w), e }),
		number("High", func(b *bureau.Bureau) (int, api.Errno) { w, e := b.High(day, point, level); return int(w), e }),
		{"See", false, func(b *bureau.Bureau) (string, bool, api.Errno) {
			can, sure, e := b.See()
			return text(can, sure), can == 0 && sure == 0, e
		}},
		number("Up", func(b *bureau.Bureau) (int, api.Errno) { w, e := b.Up(port, minute); return int(w), e }),
		{"Ships", false, func(b *bureau.Bureau) (string, bool, api.Errno) {
			l, e := b.Ships(day)
			return text(l...), len(l) == 0, e
		}},
		ends("Total", (*bureau.Bureau).Total),
		ends("Pay", (*bureau.Bureau).Pay),
		number("Cost", (*bureau.Bureau).Cost),
		{"Journal", false, func(b *bureau.Bureau) (string, bool, api.Errno) { l, e := b.Journal(); return l, l == "", e }},
		{"Do", true, func(b *bureau.Bureau) (string, bool, api.Errno) { l, e := b.Do(line); return l, l == "", e }},
	}
}

// TestAnyArguments is for P0.1 and the rules R2, R4 and R8: whatever the arguments are, nothing panics, and with an error nothing changes and nothing else is returned; equal calls on equal Bureaus have equal results.
func TestAnyArguments(t *testing.T) {
	d := dice(21)
	results := map[string]map[api.Errno]int{}
	for range 120 {
		s := d.suite()
		b, other := opened(t, s), opened(t, s)
		for range 30 {
			calls := d.calls(s)
			for _, i := range d.Perm(len(calls)) {
				before := ""
				if d.IntN(40) == 0 {
					before = seen(t, s, b)
				}
				got, zero, e := calls[i].do(b)
				again, _, againE := calls[i].do(other)
				if got != again || e != againE || e != api.OK && !zero {
					t.Fatal(calls[i].name, got, e, again, againE)
				}
				if before != "" && (e != api.OK || !calls[i].act) && seen(t, s, b) != before {
					t.Fatal(calls[i].name, e, "changed", before)
				}
				if results[calls[i].name] == nil {
					results[calls[i].name] = map[api.Errno]int{}
				}
				results[calls[i].name][e]++
			}
		}
		if got, want := seen(t, s, b), seen(t, s, other); got != want {
			t.Fatal(s, got, want)
		}
	}
	for name, counts := range results {
		argued := !slices.Contains([]string{"See", "Total", "Pay", "Cost", "Journal"}, name)
		if counts[api.OK] < 50 || argued && counts[api.ErrArg] < 50 {
			t.Error("other kinds of results:", name, counts)
		}
	}
	if len(results) != 17 {
		t.Error("not all methods:", results)
	}
}

// TestAnySuite is for P0.1: whatever suites are and texts, nothing panics, and what is refused is refused by all functions.
func TestAnySuite(t *testing.T) {
	d := dice(22)
	counts := map[api.Errno]int{}
	changes := wrong()
	for range 3000 {
		s := d.suite()
		for range d.IntN(2) {
			changes[d.IntN(len(changes))](&s)
		}
		if d.IntN(4) == 0 {
			s.Wide, s.Rows, s.Slope, s.Days, s.Classes = d.wild(), d.wild(), d.wild(), d.wild(), d.wild()
		}
		if len(s.Stations) > 0 && d.IntN(4) == 0 {
			s.Stations[0].Point, s.Stations[0].Glass.Height, s.Stations[0].Glass.Drift = d.wild(), d.wildSpan(), d.wild()
			s.Stations[0].Glass.Checks = []api.GlassCheck{{Day: d.wild(), Index: d.wildSpan()}}
		}
		before := fmt.Sprintf("%#v", s)
		want := bureau.Check(s)
		b, e := bureau.Open(s)
		_, number, replayE := bureau.Replay(s, "")
		out, consoleE := bureau.Console(s, "cost")
		if e != want || replayE != want || consoleE != want || number != -1 || (b == nil) != (want != api.OK) || (out == "0\n") != (want == api.OK) {
			t.Fatal(s, want, e, replayE, consoleE, number, out)
		}
		if after := fmt.Sprintf("%#v", s); after != before {
			t.Fatal(before, after)
		}
		counts[want]++
	}
	if counts[api.OK] < 300 || counts[api.ErrArg] < 1000 || len(counts) != 2 {
		t.Error(counts)
	}
}

// TestNil is for P10.1 to P10.8: all methods of a nil Bureau, and of one that Open has not returned, return ErrNil.
func TestNil(t *testing.T) {
	d := dice(23)
	b := done(t, good()...)
	copied := *b
	for i, other := range []*bureau.Bureau{nil, {}, new(bureau.Bureau), &copied} {
		for range 20 {
			for _, c := range d.calls(suiteS()) {
				if got, zero, e := c.do(other); e != api.ErrNil || !zero {
					t.Error(i, c.name, got, e)
				}
			}
		}
		for _, line := range []string{"", "cost", "x", strings.Repeat("x", 201), "draw 9"} {
			if got, e := other.Do(line); got != "" || e != api.ErrNil {
				t.Error(i, line, got, e)
			}
		}
	}
	if got := answered(b.Do("cost")); got != "328" {
		t.Error(got)
	}
}

// TestLargest is for P0.1: with all numbers as great, or as small, as they can be, all is done.
func TestLargest(t *testing.T) {
	s := largest()
	s.Watch.Reports = s.Watch.Reports[:8]
	b := opened(t, s)
	greatest := api.GlassReading{Day: 3, Minute: 1439, Clock: api.GlassEither, Mercury: 90000, Attached: span(-300, 500), Dry: span(-300, 500), Wet: span(-300, 500)}
	least := api.GlassReading{Clock: api.GlassRail, Mercury: 40000, Attached: span(500, 500), Dry: span(-300, -300), Wet: span(-300, -300)}
	unread := [][]string{{"00000", "??000", "00000", "00000"}, {"000?0", "00000", "00000", "?0000"}, {"99999", "99999", "9999?", "?7777"}}
	for i, e := range []api.Errno{
		b.Read(2, greatest), b.Read(0, least), b.Wire(2, 3, unread[:1]), b.Wire(0, 1, unread[:2]), b.Wire(1, 2, unread[2:]),
		b.Ship(99, 3, 29, span(0, 99999)), b.Ship(99, 0, 0, span(0, 0)), b.Report(api.ConeReport{Station: 5, Taken: 10080, Pressure: 0, Delay: span(2880, 2880), Urgent: 2880, Cost: 10000}),
		b.State(3, 2, []int{0, 0, 100}), b.Came(3, 2, 7),
	} {
		if e != api.OK {
			t.Error(i, e)
		}
	}
	if got := answered(b.Do("total")); got != "-1000000 1000000" {
		t.Error(got)
	}
	if got := answered(b.Do("pay")); got != "100000 200000" {
		t.Error(got)
	}
	b = opened(t, smallest())
	doAll(t, b, "wire 0 0 00000.00000", "ship 0 0 0 0 0", "report 0 0 0 0 0 0 0", "state 0 0 0 100", "came 0 0 1")
	if got := asked(b, []string{"draw 0", "see", "total", "pay", "cost", "ships 0", "low 0 0 1", "high 0 0 1"}); got != "draw 0: 0\nsee: error 5\ntotal: 0 0\npay: 0 0\ncost: 0\nships 0: 0\nlow 0 0 1: 1\nhigh 0 0 1: 1\n" {
		t.Error(got)
	}
}

// TestMemory is for P10.9 and the rules R3 and R4: a Bureau keeps nothing of what it is given, and gives nothing that it keeps.
func TestMemory(t *testing.T) {
	s := suiteS()
	s.Watch.Links = []api.ConeLink{{A: 0, B: 1, Diff: 300}}
	s.Watch.Reports = make([]api.ConeReport, 1, 9)
	same := copyOf(s)
	b, other := opened(t, s), opened(t, s)
	parts := []int{70, 20, 10}
	copies := [][]string{garbled(), clean()}
	for i, e := range []api.Errno{
		b.Read(0, readingS()), b.Wire(1, 0, copies), b.Ship(17, 0, 1, span(75900, 75905)), b.Ship(3, 0, 1, span(75900, 75905)),
		b.Report(api.ConeReport{Taken: 480, Pressure: 75500}), b.Report(api.ConeReport{Taken: 840, Pressure: 75150}), b.Report(api.ConeReport{Station: 1, Taken: 480, Pressure: 75400}),
		b.State(0, 0, parts), b.Came(0, 0, 3),
	} {
		if e != api.OK {
			t.Fatal(i, e)
		}
	}
	before, beforeOther := seen(t, same, b), seen(t, same, other)
	// arguments
	s.Stations[0].Point, s.Stations[1].Glass.Height, s.Stations[0].Glass.Checks[0].Index = 2, span(100, 100), span(5, 5)
	s.Code.Fields[0], s.Code.Turns[3], s.Code.Turns[8] = span(0, 1), 0, 0
	s.Watch.Reports[0].Pressure, s.Watch.Links[0].Diff, s.Watch.Ports[0].Order = 99999, 1, span(0, 0)
	for i, r := range s.Watch.Reports[:9] {
		if i > 0 && r != (api.ConeReport{}) {
			t.Error(i, r)
		}
		s.Watch.Reports[:9][i] = api.ConeReport{Taken: 481, Pressure: 1}
	}
	s.Weights[0], s.Weights[1] = 50, 50
	parts[0], parts[1], parts[2] = 0, 0, 100
	copies[0][0], copies[1] = "75310", []string{"x"}
	// results
	for range 2 {
		f, _ := b.Draw(0)
		for i := range f.Values[:cap(f.Values)] {
			f.Values[:cap(f.Values)][i] = -7
		}
		ships, _ := b.Ships(0)
		for i := range ships[:cap(ships)] {
			ships[:cap(ships)][i] = -7
		}
	}
	if after := seen(t, same, b); after != before {
		t.Error(before, after)
	}
	if after := seen(t, same, other); after != beforeOther {
		t.Error(beforeOther, after)
	}
	// what is done later is done with the suite as it was
	third := opened(t, same)
	doAll(t, third, strings.Split(strings.TrimSpace(journalOf(t, b)), "\n")...)
	for _, line := range []string{"wire 1 0 75310.27030.92340", "wire 0 1 75310.27030.92840", "read 0 1 480 1 75500 0 0 0 0 0 0", "report 1 480 75900 20 60 10 5", "state 0 1 50 50 0", "came 0 1 3"} {
		if got, want := answered(b.Do(line)), answered(third.Do(line)); got != want {
			t.Error(line, got, want)
		}
	}
	if got, want := seen(t, same, b), seen(t, same, third); got != want {
		t.Error(got, want)
	}
}

// TestApart is for P10.9: Bureaus of one suite, and one that was played again from another one's journal, share nothing.
func TestApart(t *testing.T) {
	d := dice(24)
	for range 100 {
		s := d.suite()
		b, other := opened(t, s), opened(t, s)
		for range 40 {
			b.Do(d.act(s))
		}
		if got, want := seen(t, s, other), seen(t, s, opened(t, s)); got != want {
			t.Fatal(s, got, want)
		}
		before := seen(t, s, b)
		again, _, e := bureau.Replay(s, journalOf(t, b))
		if e != api.OK {
			t.Fatal(s, e)
		}
		for range 40 {
			again.Do(d.act(s))
		}
		if after := seen(t, s, b); after != before {
			t.Fatal(s, before, after)
		}
	}
}

// TestEmpty is for the rule R3: nil and empty lists are the same value.
func TestEmpty(t *testing.T) {
	bare, empty := smallest(), smallest()
	empty.Stations[0].Glass.Checks = []api.GlassCheck{}
	empty.Watch.Reports, empty.Watch.Links, empty.Watch.Ports = []api.ConeReport{}, []api.ConeLink{}, []api.ConePort{}
	if got, want := seen(t, empty, opened(t, empty)), seen(t, bare, opened(t, bare)); got != want {
		t.Error(got, want)
	}
	b := opened(t, suiteS())
	for i, pair := range [][2]api.Errno{{b.Wire(0, 0, nil), b.Wire(0, 0, [][]string{})}, {b.Wire(0, 0, [][]string{nil}), b.Wire(0, 0, [][]string{{}})}, {b.State(0, 0, nil), b.State(0, 0, []int{})}} {
		if pair[0] != api.ErrArg || pair[1] != api.ErrArg {
			t.Error(i, pair)
		}
	}
}
