package bureau_test

import (
	"math/rand/v2"
	"slices"
	"strconv"
	"strings"
	"testing"

	"isobar/api"
	"isobar/bureau"
)

// span returns a span.
func span(low, high int) api.Span { return api.Span{Low: low, High: high} }

// in reports whether a number lies from low to high.
func in(n, low, high int) bool { return low <= n && n <= high }

// glassOf returns instruments whose index is 0 on the day 0, and that are wrong by some number at most.
func glassOf(read int) api.GlassStation {
	return api.GlassStation{Read: read, Checks: []api.GlassCheck{{Index: span(0, 0)}}}
}

// suiteS returns the chapter's suite s.
func suiteS() api.BureauSuite {
	return api.BureauSuite{
		Stations: []api.BureauStation{{Glass: glassOf(5)}, {Glass: glassOf(0), Point: 3}},
		Code:     api.WireCode{Fields: []api.Span{span(73000, 78000), span(0, 35999)}, Turns: []int{1: 1 << 7, 3: 1 << 8, 7: 1 << 1, 8: 1 << 3, 9: 0}, Most: 1},
		Tariff:   api.WireTariff{Open: 100, Free: 2, More: 31},
		Wide:     2, Rows: 2, Slope: 100,
		Watch: api.ConeWatch{
			Stations: 2, Fall: 300, Window: 360, Hold: 600, Dawn: 360, Dusk: 1080,
			Ports: []api.ConePort{{Order: span(15, 45), Day: 8000, Night: 3000}},
		},
		Classes: 3, Weights: []int{1, 2}, Paper: api.ScorePaper{Base: 500, Rate: 30, Least: 400}, Days: 2,
	}
}

// copyOf returns a suite that shares no memory with another one.
func copyOf(s api.BureauSuite) api.BureauSuite {
	s.Stations = slices.Clone(s.Stations)
	for i := range s.Stations {
		s.Stations[i].Glass.Checks = slices.Clone(s.Stations[i].Glass.Checks)
	}
	s.Code.Fields, s.Code.Turns = slices.Clone(s.Code.Fields), slices.Clone(s.Code.Turns)
	s.Watch.Reports, s.Watch.Links, s.Watch.Ports = slices.Clone(s.Watch.Reports), slices.Clone(s.Watch.Links), slices.Clone(s.Watch.Ports)
	s.Weights = slices.Clone(s.Weights)
	return s
}

// opened returns the Bureau of a suite.
func opened(t *testing.T, s api.BureauSuite) *bureau.Bureau {
	t.Helper()
	b, e := bureau.Open(s)
	if e != api.OK || b == nil {
		t.Fatal(s, b, e)
	}
	return b
}

// done returns a Bureau of the suite s of the chapter with which some lines were done.
func done(t *testing.T, lines ...string) *bureau.Bureau {
	t.Helper()
	b := opened(t, suiteS())
	doAll(t, b, lines...)
	return b
}

// doAll does some lines.
func doAll(t *testing.T, b *bureau.Bureau, lines ...string) {
	t.Helper()
	for _, line := range lines {
		if _, e := b.Do(line); e != api.OK {
			t.Fatal(line, e)
		}
	}
}

// journalOf returns the journal of a Bureau.
func journalOf(t *testing.T, b *bureau.Bureau) string {
	t.Helper()
	text, e := b.Journal()
	if e != api.OK {
		t.Fatal(e)
	}
	return text
}

// text returns numbers with a single blank between two of them.
func text(numbers ...int) string {
	var words []string
	for _, n := range numbers {
		words = append(words, strconv.Itoa(n))
	}
	return strings.Join(words, " ")
}

// answered returns what was returned, or the error, as the console writes it.
func answered(numbers string, e api.Errno) string {
	if e != api.OK {
		return numbers + "error " + strconv.Itoa(int(e))
	}
	if numbers == "" {
		return "ok"
	}
	return numbers
}

// seen returns all that a Bureau of a suite tells, so far as lines ask for it, and its journal.
func seen(t *testing.T, s api.BureauSuite, b *bureau.Bureau) string {
	t.Helper()
	return maps(t, s, b) + others(s, b) + journalOf(t, b)
}

// others returns what a Bureau of a suite tells beside its maps.
func others(s api.BureauSuite, b *bureau.Bureau) string {
	questions := []string{"see", "total", "pay", "cost"}
	for port := range s.Watch.Ports {
		for minute := 0; minute <= api.ConeEnd; minute += 293 {
			questions = append(questions, "up "+text(port, minute))
		}
	}
	return asked(b, questions)
}

// maps returns what a Bureau of a suite tells of its maps.
func maps(t *testing.T, s api.BureauSuite, b *bureau.Bureau) string {
	t.Helper()
	var questions []string
	for day := range s.Days {
		f, e := b.Draw(day)
		if e != api.OK {
			t.Fatal(day, e)
		}
		questions = append(questions, "draw "+text(day), "ships "+text(day))
		for point, value := range f.Values {
			for _, level := range []int{value, value + 7} {
				questions = append(questions, "low "+text(day, point, level), "high "+text(day, point, level))
			}
		}
	}
	return asked(b, questions)
}

// asked returns the answers to some questions.
func asked(b *bureau.Bureau, questions []string) string {
	var out []string
	for _, q := range questions {
		out = append(out, q+": "+answered(b.Do(q)))
	}
	return strings.Join(out, "\n") + "\n"
}

// dicer throws dice.
type dicer struct{ *rand.Rand }

// dice returns dice that always fall alike.
func dice(seed uint64) dicer { return dicer{rand.New(rand.NewPCG(seed, 10))} }

// from returns a number from low to high.
func (d dicer) from(low, high int) int { return low + d.IntN(high-low+1) }

// among returns one of some numbers.
func (d dicer) among(numbers ...int) int { return numbers[d.IntN(len(numbers))] }

// part returns a span within another one.
func (d dicer) part(s api.Span) api.Span {
	low := d.from(s.Low, s.High)
	return span(low, d.from(low, s.High))
}

// around returns a span in which a number lies, by some number away at most, within another span.
func (d dicer) around(n, by int, within api.Span) api.Span {
	return span(max(within.Low, n-d.IntN(by+1)), min(within.High, n+d.IntN(by+1)))
}

// glass returns instruments whose comparisons agree.
func (d dicer) glass() api.GlassStation {
	g := api.GlassStation{
		Height: d.part(span(0, d.among(0, 50, 300))), Gravity: d.part(span(-100, 100)),
		Drift: d.from(0, 2), Read: d.from(0, 10), East: d.from(-720, 720), Slip: d.from(0, 60),
	}
	index := d.from(-50, 50)
	for range d.IntN(4) {
		g.Checks = append(g.Checks, api.GlassCheck{Day: d.from(0, 20), Index: d.around(index, 10, span(-2000, 2000))})
	}
	return g
}

// code returns a code whose first readings are pressures.
func (d dicer) code() api.WireCode {
	c := api.WireCode{Fields: []api.Span{span(d.from(60000, 74000), d.from(77000, 99999))}, Most: d.from(0, 2)}
	for range d.IntN(3) {
		c.Fields = append(c.Fields, d.part(span(0, 99999)))
	}
	for range 10 {
		c.Turns = append(c.Turns, d.among(0, 1<<d.IntN(10), 1<<d.IntN(10)|1<<d.IntN(10)))
	}
	return c
}

// watch returns a watch with some reports.
func (d dicer) watch() api.ConeWatch {
	w := api.ConeWatch{
		Stations: d.from(1, 3), Fall: d.from(100, 400), Window: d.from(100, 900), Hold: d.from(100, 900),
		Dawn: d.from(0, 600), Dusk: d.from(600, 1440),
	}
	for range d.IntN(4) {
		w.Reports = append(w.Reports, d.report(w.Stations))
	}
	if w.Stations > 1 {
		w.Links = append(w.Links, api.ConeLink{A: d.IntN(w.Stations - 1), B: w.Stations - 1, Diff: d.from(100, 900)})
	}
	for range d.IntN(3) {
		low := d.from(0, 200)
		w.Ports = append(w.Ports, api.ConePort{Order: span(low, low+d.IntN(100)), Day: d.IntN(50000), Night: d.IntN(50000)})
	}
	return w
}

// report returns a report of one of some stations.
func (d dicer) report(stations int) api.ConeReport {
	return api.ConeReport{
		Station: d.IntN(stations), Taken: d.from(0, 2000), Pressure: d.from(74800, 75600),
		Delay: d.part(span(0, 200)), Urgent: d.from(0, 100), Cost: d.from(0, 20),
	}
}

// suite returns a suite.
func (d dicer) suite() api.BureauSuite {
	s := api.BureauSuite{
		Code: d.code(), Tariff: api.WireTariff{Open: d.from(0, 200), Free: d.from(0, 5), More: d.from(0, 50)},
		Wide: d.from(1, 6), Rows: d.from(1, 5), Slope: d.among(0, 40, 100, 400), Watch: d.watch(),
		Classes: d.from(2, 3), Paper: api.ScorePaper{Base: d.from(0, 600), Rate: d.from(0, 1000), Least: d.from(0, 600)}, Days: d.from(1, 4),
	}
	for range d.from(1, 3) {
		s.Weights = append(s.Weights, d.from(0, 100))
		s.Stations = append(s.Stations, api.BureauStation{Glass: d.glass(), Point: d.IntN(s.Wide * s.Rows)})
	}
	return s
}

// parts returns parts for some classes.
func (d dicer) parts(classes int) []int {
	left, out := 100, []int(nil)
	for range classes - 1 {
		out = append(out, d.from(0, left))
		left -= out[len(out)-1]
	}
	return append(out, left)
}

// reading returns a reading of instruments at about a sea level of 76000.
func (d dicer) reading(s api.BureauSuite, station int) api.GlassReading {
	temperature := d.from(0, 200)
	return api.GlassReading{
		Day: d.IntN(s.Days), Minute: d.IntN(1440), Clock: api.GlassClock(d.from(1, 3)),
		Mercury:  76000 - 9*s.Stations[station].Glass.Height.Low + d.from(-60, 60),
		Attached: d.around(temperature, 5, span(-300, 500)), Dry: d.around(temperature, 5, span(-300, 500)), Wet: d.around(temperature-20, 5, span(-300, 500)),
	}
}

// telegram returns copies of the telegram of a message, garbled within the code.
func (d dicer) telegram(c api.WireCode, groups []string) [][]string {
	var copies [][]string
	for range d.among(1, 1, 2, 3) {
		holes, wrong := d.IntN(3), d.IntN(c.Most+1)
		came := slices.Clone(groups)
		for range holes + wrong {
			g, place := d.IntN(len(came)), d.IntN(5)
			// a character that was changed before remains as it is
			if came[g][place] != groups[g][place] {
				continue
			}
			as := "?"
			if holes == 0 {
				as = strconv.Itoa(d.turned(c.Turns, int(groups[g][place]-'0')))
			} else {
				holes--
			}
			came[g] = came[g][:place] + as + came[g][place+1:]
		}
		copies = append(copies, came)
	}
	return copies
}

// turned returns a figure as which another one can be received.
func (d dicer) turned(turns []int, figure int) int {
	as := d.IntN(10)
	if turns[figure]>>as&1 == 1 {
		return as
	}
	return figure
}

// sent returns the groups of a message.
func sent(message []int) []string {
	var groups []string
	sums := make([]int, 5)
	for _, n := range message {
		group := strconv.Itoa(100000 + n)[1:]
		for place := range sums {
			sums[place] += int(group[place] - '0')
		}
		groups = append(groups, group)
	}
	check := ""
	for _, sum := range sums {
		check += strconv.Itoa(sum % 10)
	}
	return append(groups, check)
}

// message returns a message of a code with a first reading, if that can be.
func (d dicer) message(c api.WireCode, first int) []int {
	var out []int
	for i, field := range c.Fields {
		n := d.from(field.Low, field.High)
		if i == 0 {
			n = max(field.Low, min(field.High, first))
		}
		out = append(out, n)
	}
	return out
}
