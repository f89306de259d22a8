package bureau_test

import (
	"slices"
	"strconv"
	"strings"
	"testing"

	"isobar/api"
	"isobar/bureau"
)

// strange returns a number that is now and then out of range.
func (d dicer) strange(low, high int) int {
	if d.IntN(40) == 0 {
		return d.among(-1, low-1, high+1, 999999999, -999999999)
	}
	return d.from(low, high)
}

// copies returns the copies of a telegram, as words.
func (d dicer) copies(c api.WireCode, first int) string {
	var words []string
	for _, groups := range d.telegram(c, sent(d.message(c, first))) {
		words = append(words, strings.Join(groups, "."))
	}
	if d.IntN(20) == 0 {
		words = append(words, d.word())
	}
	return strings.Join(words, " ")
}

// word returns a word that is hardly a copy.
func (d dicer) word() string {
	list := []string{"x", "75310", "75310.27030", "75310.27030.92840", "?????", "...", ".", "7531.27030.92840", "\t", "\x00", "\xff", "é", "75310.27030.92840.92840", "75??0.2?030.92840", "-0", "75310.27o30.92840", "75310-27030-92840"}
	return list[d.IntN(len(list))]
}

// act returns the line of an act, which mostly is as defined.
func (d dicer) act(s api.BureauSuite) string {
	day, district, station := d.strange(0, s.Days-1), d.strange(0, len(s.Weights)-1), d.IntN(len(s.Stations))
	switch d.IntN(9) {
	case 0, 1:
		r := d.reading(s, station)
		return "read " + text(d.strange(station, station), d.strange(r.Day, r.Day), r.Minute, d.strange(int(r.Clock), int(r.Clock)), d.strange(r.Mercury, r.Mercury), r.Attached.Low, r.Attached.High, r.Dry.Low, r.Dry.High, r.Wet.Low, d.strange(r.Wet.High, r.Wet.High))
	case 2, 3:
		return "wire " + text(d.strange(station, station), day) + " " + d.copies(s.Code, d.from(75900, 76100))
	case 4, 5:
		p := d.around(d.from(75900, 76100), d.among(0, 20, 300), span(0, 99999))
		return "ship " + text(d.strange(0, 99), day, d.strange(0, s.Wide*s.Rows-1), d.strange(p.Low, p.Low), d.strange(p.High, p.High))
	case 6:
		r := d.report(s.Watch.Stations)
		return "report " + text(d.strange(r.Station, r.Station), d.strange(r.Taken, r.Taken), d.strange(r.Pressure, r.Pressure), r.Delay.Low, d.strange(r.Delay.High, r.Delay.High), d.strange(r.Urgent, r.Urgent), d.strange(r.Cost, r.Cost))
	case 7:
		parts := d.parts(d.strange(s.Classes, s.Classes)&3 | 2)
		return "state " + text(day, district) + " " + text(parts...)
	}
	return "came " + text(day, district, d.strange(1, 1<<s.Classes-1))
}

// question returns the line of a question, which mostly is as defined.
func (d dicer) question(s api.BureauSuite) string {
	day := d.strange(0, s.Days-1)
	closed := text(day, d.strange(0, s.Wide*s.Rows-1), d.strange(75900, 76100))
	up := text(d.strange(0, max(0, len(s.Watch.Ports)-1)), d.strange(0, 3000))
	list := []string{"draw " + text(day), "low " + closed, "high " + closed, "see", "up " + up, "ships " + text(day), "total", "pay", "cost"}
	return list[d.IntN(len(list))]
}

// mangled returns a line with something in it changed.
func (d dicer) mangled(line string) string {
	at, to := d.IntN(len(line)+1), d.IntN(len(line)+1)
	switch d.IntN(6) {
	case 0:
		return line[:at] + string(" 0-.?\n+1a"[d.IntN(9)]) + line[at:]
	case 1:
		return line[:min(at, to)] + line[max(at, to):]
	case 2:
		return line + " " + text(d.from(-10, 1000))
	case 3:
		return strings.ToUpper(line)
	case 4:
		return strings.Replace(line, " ", " 0", 1)
	}
	return line + strings.Repeat("7", d.from(0, 200))
}

// line returns a line that mostly is one.
func (d dicer) line(s api.BureauSuite) string {
	line := d.act(s)
	if d.IntN(4) == 0 {
		line = d.question(s)
	}
	if d.IntN(12) == 0 {
		line = d.mangled(line)
	}
	return line
}

// TestAgainstDesk is for P10.2, P10.4 to P10.7: all lines return what the chapter says, whatever was done before, and the journal has all acts that were done.
func TestAgainstDesk(t *testing.T) {
	d := dice(1)
	counts := map[string]map[api.Errno]int{}
	for range 500 {
		s := d.suite()
		b, other := opened(t, s), deskOf(s)
		for range d.from(1, 160) {
			line := d.line(s)
			got, e := b.Do(line)
			want, wantE := other.do(line)
			if got != want || e != wantE {
				t.Fatalf("%#v\n%s%q: %q %d, want %q %d", s, other.journal, line, got, e, want, wantE)
			}
			word, _, _ := strings.Cut(line, " ")
			if counts[word] == nil {
				counts[word] = map[api.Errno]int{}
			}
			counts[word][e]++
		}
		if got := journalOf(t, b); got != other.journal {
			t.Fatalf("%#v\n%q, want %q", s, got, other.journal)
		}
		for _, line := range strings.Split(strings.TrimSpace(seen(t, s, b)), "\n") {
			question, got, is := strings.Cut(line, ": ")
			if want := answered(other.do(question)); is && got != want {
				t.Fatalf("%#v\n%s%s: %s, want %s", s, other.journal, question, got, want)
			}
		}
	}
	for word, errors := range map[string][]api.Errno{
		"read": {api.OK, api.ErrArg, api.ErrText, api.ErrState, api.ErrRule, api.ErrLong}, "wire": {api.OK, api.ErrArg, api.ErrText, api.ErrState, api.ErrRule, api.ErrLong},
		"ship": {api.OK, api.ErrArg, api.ErrText, api.ErrState, api.ErrRule, api.ErrLong}, "report": {api.OK, api.ErrArg, api.ErrText, api.ErrState},
		"state": {api.OK, api.ErrArg, api.ErrText, api.ErrState}, "came": {api.OK, api.ErrArg, api.ErrText, api.ErrState, api.ErrRule},
		"draw": {api.OK, api.ErrArg, api.ErrText}, "low": {api.OK, api.ErrArg, api.ErrText}, "high": {api.OK, api.ErrArg, api.ErrText}, "see": {api.OK, api.ErrNone, api.ErrText},
		"up": {api.OK, api.ErrArg, api.ErrText}, "ships": {api.OK, api.ErrArg, api.ErrText}, "total": {api.OK, api.ErrText}, "pay": {api.OK, api.ErrText}, "cost": {api.OK, api.ErrText},
	} {
		for _, e := range errors {
			if counts[word][e] < 3 {
				t.Error("too few of an error:", word, e, counts[word])
			}
		}
	}
}

// byMethod does the act of a line, or asks its question, by the method for it.
func byMethod(b *bureau.Bureau, line string) (string, api.Errno) {
	words := strings.Split(line, " ")
	var n []int
	for _, word := range words[1:] {
		number, _ := strconv.Atoi(word)
		n = append(n, number)
	}
	switch words[0] {
	case "read":
		return "", b.Read(n[0], api.GlassReading{Day: n[1], Minute: n[2], Clock: api.GlassClock(n[3]), Mercury: n[4], Attached: span(n[5], n[6]), Dry: span(n[7], n[8]), Wet: span(n[9], n[10])})
	case "wire":
		var copies [][]string
		for _, word := range words[3:] {
			copies = append(copies, strings.Split(word, "."))
		}
		return "", b.Wire(n[0], n[1], copies)
	case "ship":
		return "", b.Ship(n[0], n[1], n[2], span(n[3], n[4]))
	case "report":
		return "", b.Report(api.ConeReport{Station: n[0], Taken: n[1], Pressure: n[2], Delay: span(n[3], n[4]), Urgent: n[5], Cost: n[6]})
	case "state":
		return "", b.State(n[0], n[1], n[2:])
	case "came":
		return "", b.Came(n[0], n[1], n[2])
	case "draw":
		f, e := b.Draw(n[0])
		return text(f.Values...), e
	case "low":
		is, e := b.Low(n[0], n[1], n[2])
		return told(e, int(is))
	case "high":
		is, e := b.High(n[0], n[1], n[2])
		return told(e, int(is))
	case "see":
		can, sure, e := b.See()
		return told(e, can, sure)
	case "up":
		is, e := b.Up(n[0], n[1])
		return told(e, int(is))
	case "ships":
		ships, e := b.Ships(n[0])
		return text(ships...), e
	case "total":
		total, e := b.Total()
		return told(e, total.Low, total.High)
	case "pay":
		pay, e := b.Pay()
		return told(e, pay.Low, pay.High)
	}
	cost, e := b.Cost()
	return told(e, cost)
}

// TestDoIsMethod is for P10.7: to do a line is to do its act, or to ask its question.
func TestDoIsMethod(t *testing.T) {
	d := dice(2)
	for range 300 {
		s := d.suite()
		b, other := opened(t, s), opened(t, s)
		for range 80 {
			line := d.act(s)
			if d.IntN(3) == 0 {
				line = d.question(s)
			}
			got, e := b.Do(line)
			if want, wantE := byMethod(other, line); got != want || e != wantE {
				t.Fatalf("%#v\n%s%q: %q %d, by the method %q %d", s, journalOf(t, b), line, got, e, want, wantE)
			}
		}
		if got, want := seen(t, s, b), seen(t, s, other); got != want {
			t.Fatal(s, got, want)
		}
	}
}

// script returns a script with some lines.
func (d dicer) script(s api.BureauSuite, count int) string {
	var rows []string
	for range count {
		row := ""
		if d.IntN(10) > 0 {
			row = strings.ReplaceAll(d.line(s), "\n", "")
		}
		rows = append(rows, row)
	}
	return strings.Join(rows, "\n") + d.ending()
}

// ending returns a line feed, or nothing.
func (d dicer) ending() string { return []string{"", "\n"}[d.IntN(2)] }

// TestConsole is for P10.8: the console returns a line for each line of a script that is not empty.
func TestConsole(t *testing.T) {
	d := dice(3)
	for range 300 {
		s := d.suite()
		script := d.script(s, d.IntN(60))
		b, want := opened(t, s), ""
		for _, row := range strings.Split(script, "\n") {
			if row != "" {
				want += answered(b.Do(row)) + "\n"
			}
		}
		if got, e := bureau.Console(s, script); got != want || e != api.OK {
			t.Fatalf("%#v\n%s\n%s%d, want\n%s", s, script, got, e, want)
		}
	}
}

// TestReplay is for P10.8 and P0.10: a journal that is played again gives the same Bureau, with the same journal, and so does each beginning of it.
func TestReplay(t *testing.T) {
	d := dice(4)
	lines := 0
	for range 200 {
		s := d.suite()
		b := opened(t, s)
		for range d.IntN(150) {
			b.Do(d.line(s))
		}
		journal := journalOf(t, b)
		again, number, e := bureau.Replay(s, journal)
		if e != api.OK || number != -1 {
			t.Fatal(s, journal, number, e)
		}
		if got, want := seen(t, s, again), seen(t, s, b); got != want {
			t.Fatal(s, got, want)
		}
		rows := strings.SplitAfter(journal, "\n")
		lines += len(rows)
		beginning := strings.Join(rows[:d.IntN(len(rows))], "")
		part, number, e := bureau.Replay(s, beginning)
		if e != api.OK || number != -1 || journalOf(t, part) != beginning {
			t.Fatal(s, beginning, number, e)
		}
		// what is done after a replay is done as it would have been
		for range 20 {
			line := d.line(s)
			if got, want := answered(again.Do(line)), answered(b.Do(line)); got != want {
				t.Fatal(s, journal, line, got, want)
			}
		}
	}
	if lines < 3000 {
		t.Error("too few lines:", lines)
	}
}

// TestReplayStops is for P10.8: the number and the error of the first line that cannot be done are returned, and no Bureau.
func TestReplayStops(t *testing.T) {
	d := dice(5)
	counts := map[api.Errno]int{}
	for range 1500 {
		s := d.suite()
		var rows []string
		for range d.IntN(70) {
			rows = append(rows, strings.ReplaceAll(d.act(s), "\n", "")+"\n")
		}
		if d.IntN(3) == 0 {
			rows = append(rows, strings.ReplaceAll(d.line(s), "\n", "")+"\n")
		}
		if d.IntN(10) == 0 {
			rows = slices.Insert(rows, d.IntN(len(rows)+1), "\n")
		}
		journal := strings.Join(rows, "")
		if d.IntN(4) == 0 {
			journal = strings.TrimSuffix(journal, "\n")
		}
		wantNumber, wantE := stopOf(s, journal)
		b, number, e := bureau.Replay(s, journal)
		if number != wantNumber || e != wantE || (b != nil) != (e == api.OK) {
			t.Fatalf("%#v\n%s%d %d, want %d %d", s, journal, number, e, wantNumber, wantE)
		}
		counts[e]++
	}
	for _, e := range []api.Errno{api.OK, api.ErrArg, api.ErrText, api.ErrState, api.ErrRule} {
		if counts[e] < 10 {
			t.Error("too few of an error:", e, counts)
		}
	}
}

// stopOf returns where a replay stops, by a desk, and its error.
func stopOf(s api.BureauSuite, journal string) (int, api.Errno) {
	d := deskOf(s)
	for number, row := range strings.SplitAfter(journal, "\n") {
		line, ended := strings.CutSuffix(row, "\n")
		if row == "" {
			break
		}
		if !ended {
			return number, api.ErrText
		}
		before := d.journal
		if _, e := d.do(line); e != api.OK {
			return number, e
		}
		if d.journal == before {
			return number, api.ErrText
		}
	}
	return -1, api.OK
}
