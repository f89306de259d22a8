package bureau_test

import (
	"regexp"
	"slices"
	"strconv"
	"strings"

	"isobar/api"
	"isobar/chart"
	"isobar/cone"
	"isobar/glass"
	"isobar/wire"
)

// desk is a Bureau as the chapter says, written another way: it finds by patterns which lines there are, looks at all pairs of stations, and takes the points of parts class by class.
type desk struct {
	s       api.BureauSuite
	maps    [][]api.ChartStation
	ships   []map[int]bool
	parts   map[[2]int][]int
	came    map[[2]int]int
	cost    int
	journal string
}

// deskOf returns the desk of a suite.
func deskOf(s api.BureauSuite) *desk {
	d := &desk{s: copyOf(s), maps: make([][]api.ChartStation, s.Days), parts: map[[2]int][]int{}, came: map[[2]int]int{}}
	for range s.Days {
		d.ships = append(d.ships, map[int]bool{})
	}
	return d
}

// numeral is the pattern of a number behind a blank.
const numeral = ` (?:0|-?[1-9][0-9]{0,8})`

// patterns returns the patterns of all lines.
func patterns() map[string]*regexp.Regexp {
	out := map[string]*regexp.Regexp{}
	for word, pattern := range map[string]string{
		"read": numeral + "{11}", "wire": numeral + numeral + `(?: [^ \n]+)+`, "ship": numeral + "{5}", "report": numeral + "{7}",
		"state": numeral + numeral + numeral + "+", "came": numeral + "{3}", "draw": numeral, "low": numeral + "{3}", "high": numeral + "{3}",
		"see": "", "up": numeral + numeral, "ships": numeral, "total": "", "pay": "", "cost": "",
	} {
		pattern = strings.ReplaceAll(pattern, numeral+"{", "(?:"+numeral+"){")
		pattern = strings.ReplaceAll(pattern, numeral+"+", "(?:"+numeral+")+")
		out[word] = regexp.MustCompile(`\A` + word + pattern + `\z`)
	}
	return out
}

var known = patterns()

// apart returns how many rows and columns two points are apart.
func apart(wide, a, b int) int {
	rows, columns := a/wide-b/wide, a%wide-b%wide
	return max(rows, -rows) + max(columns, -columns)
}

// take returns the error of an act, as the chapter orders them, and does it if there is none.
func (d *desk) take(line string, sound, room, allowed func() bool, do func()) (string, api.Errno) {
	switch {
	case !sound():
		return "", api.ErrArg
	case strings.Count(d.journal, "\n") == 60 || !room():
		return "", api.ErrState
	case !allowed():
		return "", api.ErrRule
	}
	do()
	d.journal += line + "\n"
	return "", api.OK
}

// onMap returns the error of an act that puts a pressure on a map, and does it if there is none.
func (d *desk) onMap(line string, sound bool, day, point int, pressure func() (api.Span, bool), do func()) (string, api.Errno) {
	var p api.Span
	return d.take(line,
		func() bool { return sound && in(day, 0, d.s.Days-1) },
		func() bool { return len(d.maps[day]) < 12 },
		func() bool {
			var is bool
			p, is = pressure()
			for _, other := range d.maps[day] {
				by := d.s.Slope * apart(d.s.Wide, point, other.Point)
				is = is && p.Low <= other.Pressure.High+by && other.Pressure.Low <= p.High+by
			}
			return is
		},
		func() {
			d.maps[day] = append(d.maps[day], api.ChartStation{Point: point, Pressure: p})
			do()
		})
}

// do returns what a line returns, or its error.
func (d *desk) do(line string) (string, api.Errno) {
	if len(line) > 200 {
		return "", api.ErrLong
	}
	words := strings.Split(line, " ")
	if pattern := known[words[0]]; pattern == nil || !pattern.MatchString(line) {
		return "", api.ErrText
	}
	if words[0] == "wire" {
		return d.wire(line, words)
	}
	var n []int
	for _, word := range words[1:] {
		number, _ := strconv.Atoi(word)
		n = append(n, number)
	}
	switch words[0] {
	case "read":
		return d.read(line, n)
	case "ship":
		points := d.s.Wide * d.s.Rows
		sound := in(n[0], 0, 99) && in(n[2], 0, points-1) && 0 <= n[3] && n[3] <= n[4] && n[4] <= 99999
		return d.onMap(line, sound, n[1], n[2],
			func() (api.Span, bool) { return span(n[3], n[4]), !d.ships[n[1]][n[0]] },
			func() { d.ships[n[1]][n[0]] = true })
	case "report":
		r := api.ConeReport{Station: n[0], Taken: n[1], Pressure: n[2], Delay: span(n[3], n[4]), Urgent: n[5], Cost: n[6]}
		return d.take(line,
			func() bool {
				return in(n[0], 0, d.s.Watch.Stations-1) && in(n[1], 0, 10080) && in(n[2], 0, 99999) && 0 <= n[3] && n[3] <= n[4] && n[4] <= 2880 && in(n[5], 0, 2880) && in(n[6], 0, 10000)
			},
			func() bool { return len(d.s.Watch.Reports) < 9 },
			func() bool { return true },
			func() { d.s.Watch.Reports = append(d.s.Watch.Reports, r) })
	case "state", "came":
		return d.forecast(line, words[0], n)
	}
	return d.answer(words[0], n)
}

// read does the line of a reading.
func (d *desk) read(line string, n []int) (string, api.Errno) {
	r := api.GlassReading{Day: n[1], Minute: n[2], Clock: api.GlassClock(n[3]), Mercury: n[4], Attached: span(n[5], n[6]), Dry: span(n[7], n[8]), Wet: span(n[9], n[10])}
	if !in(n[0], 0, len(d.s.Stations)-1) {
		return "", api.ErrArg
	}
	known, e := glass.Know(d.s.Stations[n[0]].Glass, r)
	return d.onMap(line, e == api.OK, n[1], d.s.Stations[n[0]].Point,
		func() (api.Span, bool) {
			return span(known.Sea.Low, min(known.Sea.High, 99999)), known.Sea.Low <= 99999
		},
		func() {})
}

// wire does the line of a telegram.
func (d *desk) wire(line string, words []string) (string, api.Errno) {
	station, _ := strconv.Atoi(words[1])
	day, _ := strconv.Atoi(words[2])
	var copies [][]string
	sound := in(station, 0, len(d.s.Stations)-1) && len(words) <= 6
	for _, word := range words[3:] {
		groups := strings.Split(word, ".")
		copies = append(copies, groups)
		sound = sound && len(groups) == len(d.s.Code.Fields)+1 && strings.Count(word, "?") <= 2
		for _, group := range groups {
			sound = sound && regexp.MustCompile(`\A[0-9?]{5}\z`).MatchString(group)
		}
	}
	if !sound {
		return "", api.ErrArg
	}
	return d.onMap(line, true, day, d.s.Stations[station].Point,
		func() (api.Span, bool) {
			messages, e := wire.Could(d.s.Code, copies)
			p := span(100000, -1)
			for _, m := range messages {
				p = span(min(p.Low, m[0]), max(p.High, m[0]))
			}
			return p, e == api.OK
		},
		func() {
			one := d.s.Tariff.Open + d.s.Tariff.More*max(0, len(d.s.Code.Fields)+1-d.s.Tariff.Free)
			d.cost += one + (len(copies)-1)*((one+1)/2)
		})
}

// forecast does the line of parts that are stated, or of classes that can have come.
func (d *desk) forecast(line, word string, n []int) (string, api.Errno) {
	at := [2]int{n[0], n[1]}
	sound := func() bool { return in(n[0], 0, d.s.Days-1) && in(n[1], 0, len(d.s.Weights)-1) }
	if word == "came" {
		return d.take(line,
			func() bool { return sound() && in(n[2], 1, 1<<d.s.Classes-1) },
			func() bool { return d.came[at] == 0 },
			func() bool { return d.parts[at] != nil },
			func() { d.came[at] = n[2] })
	}
	sum := 0
	for _, part := range n[2:] {
		sum += part
	}
	return d.take(line,
		func() bool {
			return sound() && len(n) == 2+d.s.Classes && sum == 100 && slices.Min(n[2:]) >= 0
		},
		func() bool { return d.parts[at] == nil },
		func() bool { return true },
		func() { d.parts[at] = n[2:] })
}

// points returns the weighed points of parts that were stated, if a class comes.
func (d *desk) points(at [2]int, class int) int {
	n := 200 * d.parts[at][class]
	for _, part := range d.parts[at] {
		n -= part * part
	}
	return n * d.s.Weights[at[1]]
}

// total returns the least and the greatest sum of points.
func (d *desk) total() (int, int) {
	low, high := 0, 0
	for at, set := range d.came {
		var some []int
		for class := range d.s.Classes {
			if set>>class&1 == 1 {
				some = append(some, d.points(at, class))
			}
		}
		low, high = low+slices.Min(some), high+slices.Max(some)
	}
	return low, high
}

// pay returns what the paper pays for points.
func (d *desk) pay(points int) int {
	n := d.s.Paper.Rate * points
	down := ((n % 10000) + 10000) % 10000
	return max(d.s.Paper.Least, d.s.Paper.Base+(n-down)/10000)
}

// drawn returns the values of the drawn field of a map.
func (d *desk) drawn(day int) []int {
	var values []int
	for point := range d.s.Wide * d.s.Rows {
		low, high := 0, 99999
		for _, s := range d.maps[day] {
			by := d.s.Slope * apart(d.s.Wide, point, s.Point)
			low, high = max(low, s.Pressure.Low-by), min(high, s.Pressure.High+by)
		}
		values = append(values, (low+high)/2)
	}
	return values
}

// answer returns what a question returns, or its error.
func (d *desk) answer(word string, n []int) (string, api.Errno) {
	switch word {
	case "see":
		can, sure, e := cone.See(d.s.Watch)
		return told(e, can, sure)
	case "up":
		is, e := cone.Up(d.s.Watch, n[0], n[1])
		return told(e, int(is))
	case "total":
		low, high := d.total()
		return told(api.OK, low, high)
	case "pay":
		low, high := d.total()
		return told(api.OK, d.pay(low), d.pay(high))
	case "cost":
		return told(api.OK, d.cost)
	}
	day := n[0]
	if !in(day, 0, d.s.Days-1) {
		return "", api.ErrArg
	}
	m := api.ChartMap{Wide: d.s.Wide, Rows: d.s.Rows, Slope: d.s.Slope, Stations: d.maps[day]}
	switch word {
	case "draw":
		return told(api.OK, d.drawn(day)...)
	case "low":
		is, e := chart.Low(m, n[1], n[2])
		return told(e, int(is))
	case "high":
		is, e := chart.High(m, n[1], n[2])
		return told(e, int(is))
	}
	var ships []int
	for number := range 100 {
		if d.ships[day][number] {
			ships = append(ships, number)
		}
	}
	return told(api.OK, ships...)
}

// told returns numbers as a line tells them, or the error.
func told(e api.Errno, numbers ...int) (string, api.Errno) {
	if e != api.OK {
		return "", e
	}
	return text(numbers...), api.OK
}
