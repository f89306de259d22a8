package bureau_test

import (
	"slices"
	"strings"
	"testing"

	"isobar/api"
	"isobar/bureau"
	"isobar/chart"
	"isobar/cone"
	"isobar/glass"
)

// TestSee is for P10.4: what the rule can see, surely sees, and never sees, with the reports that the watch had and those that came.
func TestSee(t *testing.T) {
	first, last := "report 0 480 75500 20 60 10 5", "report 0 840 75150 10 50 10 4"
	for _, x := range []struct {
		lines []string
		see   string
		up    []string
	}{
		{nil, "error 5", []string{"864", "1", "865", "1", "935", "1"}},
		{[]string{first}, "error 5", []string{"865", "1", "935", "1"}},
		{[]string{first, last}, "850 890", []string{"864", "1", "865", "2", "934", "2", "935", "3", "1454", "3", "1455", "2", "1484", "2", "1485", "1"}},
		{[]string{last, first}, "850 890", []string{"864", "1", "865", "2", "934", "2", "935", "3"}},
		{[]string{first, "report 0 840 75200 10 50 10 4"}, "850 890", nil},
		{[]string{first, "report 0 840 75201 10 50 10 4"}, "error 5", nil},
		{[]string{first, "report 0 841 75150 10 50 10 4"}, "error 5", nil},
		{[]string{first, "report 1 840 75150 10 50 10 4"}, "error 5", nil},
		// it can come too late to be seen
		{[]string{first, "report 0 840 75150 10 600 10 4"}, "850 -1", []string{"865", "2", "1439", "2", "1484", "2", "1485", "1"}},
		{[]string{first, "report 0 840 75150 600 600 10 4"}, "error 5", nil},
		{[]string{first, "report 0 840 75150 599 599 10 4"}, "1439 1439", []string{"1454", "2", "1453", "1", "1484", "2", "1485", "1"}},
	} {
		b := done(t, x.lines...)
		if got := answered(b.Do("see")); got != x.see {
			t.Error(x.lines, got)
		}
		for pair := range slices.Chunk(x.up, 2) {
			if got := answered(b.Do("up 0 " + pair[0])); got != pair[1] {
				t.Error(x.lines, pair, got)
			}
		}
		// with the same reports from the beginning
		s := suiteS()
		for _, line := range x.lines {
			n := numbers(line)
			s.Watch.Reports = append(s.Watch.Reports, api.ConeReport{Station: n[0], Taken: n[1], Pressure: n[2], Delay: span(n[3], n[4]), Urgent: n[5], Cost: n[6]})
		}
		if got := answered(opened(t, s).Do("see")); got != x.see {
			t.Error(s, got)
		}
	}
	b := done(t, first, last)
	for _, line := range []string{"up -1 865", "up 1 865", "up 0 -1", "up 0 20001"} {
		if got := answered(b.Do(line)); got != "error 2" {
			t.Error(line, got)
		}
	}
	if word, e := b.Up(0, 20000); word != api.ConeNever || e != api.OK {
		t.Error(word, e)
	}
	s := suiteS()
	s.Watch.Ports = nil
	if word, e := opened(t, s).Up(0, 865); word != 0 || e != api.ErrArg {
		t.Error(word, e)
	}
}

// numbers returns the numbers of a line.
func numbers(line string) []int {
	var n []int
	for _, word := range strings.Split(line, " ")[1:] {
		number := 0
		for _, c := range word {
			number = 10*number + int(c-'0')
		}
		n = append(n, number)
	}
	return n
}

// TestMoreReports is for P10.4: a report more never makes a storm seen later, in which order they come does not matter, and all minutes between are told as layer 5 does.
func TestMoreReports(t *testing.T) {
	d := dice(11)
	storms := 0
	for range 800 {
		s := d.suite()
		b := opened(t, s)
		w := copyOf(s).Watch
		can, sure, e := b.See()
		for len(w.Reports) < 9 {
			r := d.report(w.Stations)
			w.Reports = append(w.Reports, r)
			if e := b.Report(r); e != api.OK {
				t.Fatal(s, r, e)
			}
			nowCan, nowSure, nowE := b.See()
			if e == api.OK && (nowE != api.OK || nowCan > can || sure >= 0 && (nowSure > sure || nowSure < 0)) {
				t.Fatal(s, w.Reports, can, sure, nowCan, nowSure, nowE)
			}
			can, sure, e = nowCan, nowSure, nowE
		}
		wantCan, wantSure, wantE := cone.See(w)
		if can != wantCan || sure != wantSure || e != wantE {
			t.Fatal(s, w.Reports, can, sure, e)
		}
		if e == api.OK {
			storms++
		}
		other := s
		other.Watch.Reports = nil
		c := opened(t, other)
		for _, i := range d.Perm(len(w.Reports)) {
			c.Report(w.Reports[i])
		}
		if got, want := others(s, c), others(s, b); got != want {
			t.Fatal(s, w.Reports, got, want)
		}
	}
	if storms < 300 {
		t.Error("too few storms:", storms)
	}
}

// TestCones is for P0.5: whatever the delays and the orders are, a cone that surely is up is, one that never is is not, and while the rule sees a storm in what has come, the cone is up by the order later.
func TestCones(t *testing.T) {
	d := dice(12)
	words := map[api.ConeWord]int{}
	for range 1500 {
		s := d.suite()
		b := opened(t, s)
		w := copyOf(s).Watch
		for range d.from(2, 5) {
			r := d.report(w.Stations)
			w.Reports = append(w.Reports, r)
			b.Report(r)
		}
		var delays []int
		for _, r := range w.Reports {
			delays = append(delays, d.from(r.Delay.Low, r.Delay.High))
		}
		first, e := cone.Play(w, delays)
		can, sure, known := b.See()
		if e == api.OK && (known != api.OK || first < can || sure >= 0 && first > sure) || e != api.OK && sure > 0 {
			t.Fatal(s, w.Reports, delays, first, e, can, sure, known)
		}
		for port, p := range w.Ports {
			order := d.from(p.Order.Low, p.Order.High)
			for _, minute := range []int{first + order, first + order - 1, d.from(0, 3000), d.from(0, 3000), d.from(0, 3000)} {
				minute = max(0, minute)
				is, e := cone.Hoisted(w, delays, port, order, minute)
				word, wordE := b.Up(port, minute)
				if e != api.OK || wordE != api.OK || is && word == api.ConeNever || !is && word == api.ConeSurely {
					t.Fatal(s, w.Reports, delays, port, order, minute, is, word)
				}
				words[word]++
			}
		}
	}
	if words[api.ConeNever] < 100 || words[api.ConeMay] < 100 || words[api.ConeSurely] < 100 {
		t.Error("too few of some words:", words)
	}
}

// TestForecasts is for P10.5: what is stated, and what came, is known for each day and district, and both ends of the points are those of the worst and the best truth.
func TestForecasts(t *testing.T) {
	for i, x := range []struct {
		lines      []string
		total, pay string
	}{
		{nil, "0 0", "500 500"},
		{[]string{"state 0 0 70 20 10"}, "0 0", "500 500"},
		{[]string{"state 0 0 70 20 10", "came 0 0 1"}, "8600 8600", "525 525"},
		{[]string{"state 0 0 70 20 10", "came 0 0 2"}, "-1400 -1400", "495 495"},
		{[]string{"state 0 0 70 20 10", "came 0 0 4"}, "-3400 -3400", "489 489"},
		{[]string{"state 0 0 70 20 10", "came 0 0 6"}, "-3400 -1400", "489 495"},
		{[]string{"state 0 0 70 20 10", "came 0 0 7"}, "-3400 8600", "489 525"},
		// the district 1 counts twice
		{[]string{"state 0 1 70 20 10", "came 0 1 7"}, "-6800 17200", "479 551"},
		{[]string{"state 1 1 70 20 10", "came 1 1 7", "state 0 0 70 20 10", "came 0 0 7", "state 1 0 0 0 100"}, "-10200 25800", "469 577"},
		{[]string{"state 1 1 100 0 0", "came 1 1 2", "state 0 1 0 100 0", "came 0 1 1"}, "-40000 -40000", "400 400"},
		{[]string{"state 1 1 100 0 0", "came 1 1 3"}, "-20000 20000", "440 560"},
	} {
		b := done(t, x.lines...)
		if got := answered(b.Do("total")); got != x.total {
			t.Error(i, got)
		}
		if got := answered(b.Do("pay")); got != x.pay {
			t.Error(i, got)
		}
	}
	b := done(t, "state 0 0 70 20 10")
	refused(t, b, api.ErrState, "state", func() api.Errno { return b.State(0, 0, []int{0, 0, 100}) })
	refused(t, b, api.ErrRule, "came", func() api.Errno { return b.Came(0, 1, 1) })
	refused(t, b, api.ErrRule, "came", func() api.Errno { return b.Came(1, 0, 1) })
	doAll(t, b, "came 0 0 3")
	refused(t, b, api.ErrState, "came", func() api.Errno { return b.Came(0, 0, 1) })
	refused(t, b, api.ErrState, "state", func() api.Errno { return b.State(0, 0, []int{70, 20, 10}) })
	s := suiteS()
	s.Classes = 2
	b = opened(t, s)
	for _, x := range [][2]string{{"came 0 0 3", "error 7"}, {"state 0 0 70 20 10", "error 2"}, {"came 0 0 4", "error 2"}, {"state 0 0 70 30", "ok"}, {"came 0 0 4", "error 2"}, {"came 0 0 3", "ok"}} {
		if got := answered(b.Do(x[0])); got != x[1] {
			t.Error(x, got)
		}
	}
}

// TestPoints is for P10.5 and P0.6: whatever came, the points lie within their bounds, both of which are reached, and what the paper pays does too; and nobody hopes for more than by stating what they believe.
func TestPoints(t *testing.T) {
	d := dice(13)
	for range 300 {
		s := d.suite()
		b := opened(t, s)
		sums := map[int]bool{0: true}
		for day := range s.Days {
			for district, weight := range s.Weights {
				parts, set := d.parts(s.Classes), d.from(1, 1<<s.Classes-1)
				if d.IntN(4) == 0 || b.State(day, district, parts) != api.OK || d.IntN(4) == 0 || b.Came(day, district, set) != api.OK {
					continue
				}
				longer := map[int]bool{}
				for class := range s.Classes {
					n := 200 * parts[class]
					for _, part := range parts {
						n -= part * part
					}
					for sum := range sums {
						if set>>class&1 == 1 && len(longer) < 5000 {
							longer[sum+weight*n] = true
						}
					}
				}
				if len(longer) == 5000 {
					// too many sums: the ends alone are gone on with
					low, high := ends(longer)
					longer = map[int]bool{low: true, high: true}
				}
				sums = longer
			}
		}
		low, high := ends(sums)
		total, e := b.Total()
		if e != api.OK || total.Low > low || total.High < high || len(sums) != 2 && len(sums) < 5000 && total != span(low, high) {
			t.Fatal(s, journalOf(t, b), total, low, high)
		}
		pay, e := b.Pay()
		for sum := range sums {
			if p := (&desk{s: s}).pay(sum); e != api.OK || !in(p, pay.Low, pay.High) {
				t.Fatal(s, journalOf(t, b), pay, sum, p)
			}
		}
	}
	honest(t, d)
}

// ends returns the least and the greatest of some sums.
func ends(sums map[int]bool) (int, int) {
	low, high := 1<<40, -1<<40
	for sum := range sums {
		low, high = min(low, sum), max(high, sum)
	}
	return low, high
}

// honest reports parts that hope for more than those that are believed.
func honest(t *testing.T, d dicer) {
	t.Helper()
	hope := func(parts, belief []int) int {
		sum := 0
		for class, part := range belief {
			b := opened(t, suiteS())
			b.State(1, 1, parts)
			b.Came(1, 1, 1<<class)
			total, e := b.Total()
			if e != api.OK || total.Low != total.High {
				t.Fatal(parts, class, total, e)
			}
			sum += part * total.Low
		}
		return sum
	}
	for range 300 {
		belief, parts := d.parts(3), d.parts(3)
		if is, other := hope(belief, belief), hope(parts, belief); other > is || other == is && !slices.Equal(parts, belief) {
			t.Fatal(belief, parts, is, other)
		}
	}
}

// onMaps returns the lines of a journal that put something on maps.
func onMaps(journal string) []string {
	var out []string
	for _, line := range strings.SplitAfter(journal, "\n") {
		word, _, _ := strings.Cut(line, " ")
		if slices.Contains([]string{"read", "wire", "ship"}, word) {
			out = append(out, line)
		}
	}
	return out
}

// TestAnyOrder is for P10.3 and P0.10: what was put on maps is taken in any other order, each log of a ship once, and makes the same maps.
func TestAnyOrder(t *testing.T) {
	d := dice(14)
	count := 0
	for range 150 {
		s := d.suite()
		b := opened(t, s)
		for range 150 {
			b.Do(d.act(s))
		}
		want, lines := maps(t, s, b), onMaps(journalOf(t, b))
		count += len(lines)
		for range 3 {
			d.Shuffle(len(lines), func(i, j int) { lines[i], lines[j] = lines[j], lines[i] })
			other, number, e := bureau.Replay(s, strings.Join(lines, ""))
			if e != api.OK || number != -1 {
				t.Fatal(s, lines, number, e)
			}
			if got := maps(t, s, other); got != want {
				t.Fatal(s, lines, got, want)
			}
			for _, line := range lines {
				if _, e := other.Do(strings.TrimSuffix(line, "\n")); strings.HasPrefix(line, "ship") && e == api.OK {
					t.Fatal(s, lines, line)
				}
			}
		}
	}
	if count < 1500 {
		t.Error("too few lines:", count)
	}
}

// weather is a suite with what is true: a field for each day, and a reading of each station on each day with its truth.
type weather struct {
	s        api.BureauSuite
	fields   []api.ChartField
	readings [][]api.GlassReading
	truths   [][]api.GlassTruth
}

// weather returns what can be true of a Bureau.
func (d dicer) weather(t *testing.T) weather {
	for {
		v := weather{s: d.suite()}
		points := d.Perm(v.s.Wide * v.s.Rows)
		v.s.Stations = v.s.Stations[:min(len(v.s.Stations), len(points))]
		for i := range v.s.Stations {
			v.s.Stations[i].Point = points[i]
		}
		v.s.Slope = 0
		var sea [][]int
		for day := range v.s.Days {
			var readings []api.GlassReading
			var truths []api.GlassTruth
			var values []int
			for station := range v.s.Stations {
				r := d.reading(v.s, station)
				r.Day = day
				truth := d.truth(t, v.s.Stations[station].Glass, r)
				w, e := glass.Play(v.s.Stations[station].Glass, r, truth)
				if e != api.OK {
					t.Fatal(v.s, r, truth, e)
				}
				readings, truths, values = append(readings, r), append(truths, truth), append(values, w.Sea)
			}
			v.readings, v.truths, sea = append(v.readings, readings), append(v.truths, truths), append(sea, values)
			for i, a := range values {
				for j, b := range values[:i] {
					by := apart(v.s.Wide, points[i], points[j])
					v.s.Slope = max(v.s.Slope, (max(a-b, b-a)+by-1)/by)
				}
			}
		}
		v.s.Slope += d.among(0, 1, 50)
		if v.s.Slope > 5000 || slices.Max(slices.Concat(sea...)) > 99999 {
			continue
		}
		for day := range v.s.Days {
			v.fields = append(v.fields, d.field(v.s, points[:len(v.s.Stations)], sea[day]))
		}
		v.s.Code.Fields[0] = span(d.among(0, slices.Min(slices.Concat(sea...))), d.among(99999, slices.Max(slices.Concat(sea...))))
		return v
	}
}

// truth returns what can be true of a reading of instruments.
func (d dicer) truth(t *testing.T, g api.GlassStation, r api.GlassReading) api.GlassTruth {
	index, e := glass.Index(g, r.Day)
	if e != api.OK {
		t.Fatal(g, r, e)
	}
	of := func(s api.Span) int { return d.among(s.Low, s.High, d.from(s.Low, s.High)) }
	return api.GlassTruth{Index: of(index), Error: of(span(-g.Read, g.Read)), Gravity: of(g.Gravity), Height: of(g.Height), Attached: of(r.Attached), Dry: of(r.Dry), Wet: of(r.Wet)}
}

// field returns a field of the map of a suite that has some values at some points.
func (d dicer) field(s api.BureauSuite, points, values []int) api.ChartField {
	m := api.ChartMap{Wide: s.Wide, Rows: s.Rows, Slope: s.Slope}
	add := func(point, value int) {
		m.Stations = append(m.Stations, api.ChartStation{Point: point, Pressure: span(value, value)})
	}
	for i, point := range points {
		add(point, values[i])
	}
	f := api.ChartField{Wide: s.Wide, Values: make([]int, s.Wide*s.Rows)}
	order, kind := d.Perm(len(f.Values)), d.IntN(4)
	if s.Wide > 2 && s.Rows > 2 && kind > 1 {
		// a point that is not at the edge comes first
		middle := s.Wide + 1
		order = append([]int{middle}, slices.DeleteFunc(order, func(p int) bool { return p == middle })...)
	}
	for i, point := range order {
		low, high := 0, 99999
		for _, other := range m.Stations {
			by := s.Slope * apart(s.Wide, point, other.Point)
			low, high = max(low, other.Pressure.Low-by), min(high, other.Pressure.High+by)
		}
		f.Values[point] = d.among(low, high, d.from(low, high))
		if kind > 1 && i > 0 == (kind == 2) {
			f.Values[point] = high
		} else if kind > 1 {
			f.Values[point] = low
		}
		add(point, f.Values[point])
	}
	return f
}

// sightings returns the lines of readings, telegrams and logs that are true on a day.
func (d dicer) sightings(v weather, day int) []string {
	var lines []string
	for station, r := range v.readings[day] {
		truth := v.truths[day][station]
		g := v.s.Stations[station].Glass
		// as wrong as it is read, the truth remains the same
		more := d.from(-g.Read, g.Read) - truth.Error
		for _, by := range []int{0, more} {
			lines = append(lines, "read "+text(station, day, r.Minute, int(r.Clock), r.Mercury+by, r.Attached.Low, r.Attached.High, r.Dry.Low, r.Dry.High, r.Wet.Low, r.Wet.High))
		}
		lines = append(lines, "wire "+text(station, day)+" "+d.words(d.telegram(v.s.Code, sent(d.message(v.s.Code, v.fields[day].Values[v.s.Stations[station].Point])))))
	}
	wide := v.s.Wide
	near := []int{wide + 1, wide, wide + 2, 1, 2*wide + 1, 0, 2, 2 * wide, 2*wide + 2}
	closely := wide > 2 && v.s.Rows > 2 && d.IntN(2) == 0
	if closely {
		lines = lines[:d.IntN(4)]
	}
	for ship := range 9 {
		point, by := d.IntN(len(v.fields[day].Values)), d.among(0, 10, 100)
		if closely {
			point, by = near[ship], d.IntN(3)
		}
		p := d.around(v.fields[day].Values[point], by, span(0, 99999))
		lines = append(lines, "ship "+text(ship, day, point, p.Low, p.High))
	}
	d.Shuffle(len(lines), func(i, j int) { lines[i], lines[j] = lines[j], lines[i] })
	return lines[:min(len(lines), 12)]
}

// words returns copies as words.
func (d dicer) words(copies [][]string) string {
	var words []string
	for _, groups := range copies {
		words = append(words, strings.Join(groups, "."))
	}
	return strings.Join(words, " ")
}

// closed reports whether a point lies in a closed low of a field, or in a closed high.
func closed(f api.ChartField, point, level int, high bool) bool {
	rows := len(f.Values) / f.Wide
	is := func(p int) bool { return (f.Values[p] >= level) == high }
	if !is(point) {
		return false
	}
	met, todo := map[int]bool{point: true}, []int{point}
	for len(todo) > 0 {
		row, column := todo[0]/f.Wide, todo[0]%f.Wide
		todo = todo[1:]
		if row == 0 || column == 0 || row == rows-1 || column == f.Wide-1 {
			return false
		}
		for other := range f.Values {
			rowsBy, columnsBy := max(row-other/f.Wide, other/f.Wide-row), max(column-other%f.Wide, other%f.Wide-column)
			near := rowsBy+columnsBy == 1 || !high && rowsBy <= 1 && columnsBy <= 1
			if near && is(other) && !met[other] {
				met[other], todo = true, append(todo, other)
			}
		}
	}
	return true
}

// TestTruth is for P10.2, P10.3 and P0.1 to P0.3: whatever is true, what is read of it, wired and logged, however it is wrong within its bounds, is taken; and what is said of lows and highs is so in truth.
func TestTruth(t *testing.T) {
	d := dice(15)
	words := map[string]int{}
	acts := 0
	for range 400 {
		v := d.weather(t)
		b := opened(t, v.s)
		var lines []string
		for day := range v.s.Days {
			lines = append(lines, d.sightings(v, day)...)
		}
		d.Shuffle(len(lines), func(i, j int) { lines[i], lines[j] = lines[j], lines[i] })
		for _, line := range lines {
			if _, e := b.Do(line); e != api.OK {
				t.Fatalf("%#v\n%s\n%q %d", v, journalOf(t, b), line, e)
			}
			acts++
		}
		for day, f := range v.fields {
			for range 30 {
				point := d.among(d.IntN(len(f.Values)), min(v.s.Wide+1, len(f.Values)-1))
				level := max(1, f.Values[d.among(point, d.IntN(len(f.Values)))]+d.from(-3, 3))
				low, e := b.Low(day, point, level)
				high, highE := b.High(day, point, level)
				if e != api.OK || highE != api.OK {
					t.Fatal(e, highE)
				}
				isLow, isHigh := closed(f, point, level, false), closed(f, point, level, true)
				if isLow && low == api.ChartNever || !isLow && low == api.ChartSurely || isHigh && high == api.ChartNever || !isHigh && high == api.ChartSurely {
					t.Fatalf("%#v\n%s %d %d %d: %d %v, %d %v", v, journalOf(t, b), day, point, level, low, isLow, high, isHigh)
				}
				words["low "+text(int(low))]++
				words["high "+text(int(high))]++
			}
		}
	}
	if acts < 4000 || words["low 2"] < 100 || words["low 3"] < 50 || words["high 2"] < 100 || words["high 3"] < 50 {
		t.Error("too few of some kind:", acts, words)
	}
}

// TestDrawn is for P0.3 and P10.6: what is drawn passes each station that was put on the map in its span, changes by no more than the slope, and its isobars do not cross.
func TestDrawn(t *testing.T) {
	d := dice(16)
	lines := 0
	for range 300 {
		v := d.weather(t)
		b := opened(t, v.s)
		m := api.ChartMap{Wide: v.s.Wide, Rows: v.s.Rows, Slope: v.s.Slope}
		for range 12 {
			point := d.IntN(len(v.fields[0].Values))
			p := d.around(v.fields[0].Values[point], d.among(0, 10, 100), span(0, 99999))
			m.Stations = append(m.Stations, api.ChartStation{Point: point, Pressure: p})
			if e := b.Ship(len(m.Stations), 0, point, p); e != api.OK {
				t.Fatal(e)
			}
		}
		f, e := b.Draw(0)
		if is, fitsE := chart.Fits(m, f); !is || fitsE != api.OK || e != api.OK {
			t.Fatal(m, f, e)
		}
		for range 5 {
			level := max(1, f.Values[d.IntN(len(f.Values))]+d.from(0, 1))
			isobars, e := chart.Lines(f, level)
			if e != api.OK {
				t.Fatal(e)
			}
			crossings := map[api.ChartCross]bool{}
			for _, isobar := range isobars {
				for _, c := range isobar {
					if crossings[c] || f.Values[c.Low] >= level || f.Values[c.High] < level {
						t.Fatal(f, level, isobars)
					}
					crossings[c] = true
					lines++
				}
			}
		}
	}
	if lines < 1000 {
		t.Error("too few crossings:", lines)
	}
}

// TestRestored is for P0.2: a telegram whose message is restored is on the map as it was sent, and otherwise the reading that was sent is one that is possible.
func TestRestored(t *testing.T) {
	d := dice(17)
	for range 2000 {
		s := suiteS()
		s.Code = d.code()
		message := d.message(s.Code, d.from(75900, 76100))
		b := opened(t, s)
		line := "wire 1 0 " + d.words(d.telegram(s.Code, sent(message)))
		if got := answered(b.Do(line)); got != "ok" {
			t.Fatal(s.Code, message, line, got)
		}
		if e := b.Ship(1, 0, 3, span(message[0], message[0])); e != api.OK {
			t.Fatal(s.Code, message, line, e)
		}
	}
}
