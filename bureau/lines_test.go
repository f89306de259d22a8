package bureau_test

import (
	"strings"
	"testing"

	"isobar/api"
	"isobar/bureau"
)

// TestLines is for P10.7: each act is done by its line, and its line is in the journal as it was; each question is asked by its line.
func TestLines(t *testing.T) {
	lines := []string{
		"read 0 1 1439 3 75815 -10 20 -5 5 -6 4", "wire 1 0 75310.27030.92840 7?810.27030.9284? 75810.27030.92840", "wire 0 1 75810.27030.92840",
		"ship 0 0 0 0 99999", "ship 99 1 3 75800 76000", "report 1 10080 99999 0 2880 2880 10000", "report 0 0 0 0 0 0 0",
		"state 1 1 0 0 100", "state 0 1 33 33 34", "came 1 1 7", "came 0 1 4",
	}
	b := done(t, lines...)
	if got := journalOf(t, b); got != strings.Join(lines, "\n")+"\n" {
		t.Error(got)
	}
	other := opened(t, suiteS())
	for _, e := range []api.Errno{
		other.Read(0, api.GlassReading{Day: 1, Minute: 1439, Clock: api.GlassEither, Mercury: 75815, Attached: span(-10, 20), Dry: span(-5, 5), Wet: span(-6, 4)}),
		other.Wire(1, 0, [][]string{garbled(), {"7?810", "27030", "9284?"}, clean()}), other.Wire(0, 1, [][]string{clean()}),
		other.Ship(0, 0, 0, span(0, 99999)), other.Ship(99, 1, 3, span(75800, 76000)),
		other.Report(api.ConeReport{Station: 1, Taken: 10080, Pressure: 99999, Delay: span(0, 2880), Urgent: 2880, Cost: 10000}), other.Report(api.ConeReport{}),
		other.State(1, 1, []int{0, 0, 100}), other.State(0, 1, []int{33, 33, 34}), other.Came(1, 1, 7), other.Came(0, 1, 4),
	} {
		if e != api.OK {
			t.Error(e)
		}
	}
	if got, want := seen(t, suiteS(), other), seen(t, suiteS(), b); got != want {
		t.Error(got, want)
	}
	for line, want := range map[string]string{
		"draw 0": "75810 75810 75810 75810", "draw 1": "75810 75810 75810 75900", "ships 0": "0", "ships 1": "99", "low 0 0 1": "1", "high 1 3 99999": "1",
		"see": "error 5", "up 0 0": "1", "total": "-13068 26932", "pay": "460 580", "cost": "394",
	} {
		if got := answered(b.Do(line)); got != want {
			t.Error(line, got)
		}
	}
	if got := journalOf(t, b); got != strings.Join(lines, "\n")+"\n" {
		t.Error("questions are in the journal:", got)
	}
}

// good returns a line of each kind that can be done.
func good() []string {
	return []string{
		"read 0 0 480 1 76000 0 0 0 0 0 0", "wire 1 0 75810.27030.92840", "wire 1 0 75810.27030.92840 75810.27030.92840", "ship 17 0 1 75900 75905", "report 0 480 75500 20 60 10 5", "report 0 840 75150 10 50 10 4", "state 0 0 70 20 10", "came 0 0 1",
		"draw 0", "low 0 3 75900", "high 0 3 75900", "up 0 865", "ships 0", "total", "pay", "cost", "see",
	}
}

// noText returns texts that are no lines.
func noText() []string {
	out := []string{
		"", " ", "x", "\n", "cost\n", "read", "wire", "wire 1", "wire 1 0", "wire 1 0 ", "wire 1 0  75810.27030.92840", "wire 1 0 75810.27030.92840 ", "wire 1 0 75810.27030.92840  75810.27030.92840",
		"wire 1 x 75810.27030.92840", "wire x 0 75810.27030.92840", "wire 01 0 75810.27030.92840", "wire 1 0 75810.27030.92840\n", "wire 1 0 75810.27030\n92840", "wire 1 0\n75810.27030.92840", "wire 1 75810.27030.92840",
		"ship", "state", "state 0", "state 0 0", "state 0 0 ", "state 0 0 100 0 x", "state 0 0 100 0  0", "report", "came", "came 0 0", "draw", "low", "low 0 3", "high 0", "up", "up 0", "ships", "replay", "journal", "do cost", "error 7", "ok",
	}
	for _, line := range good() {
		word, rest, _ := strings.Cut(line, " ")
		out = append(out, " "+line, line+" ", strings.ToUpper(line), word+word+" "+rest, word[1:]+" "+rest, "\t"+line, line+"\n", "\n"+line, word+"\t"+rest)
		if !strings.HasPrefix(line, "wire") && !strings.HasPrefix(line, "state") {
			out = append(out, line+" 0", line+" x")
		}
		if rest != "" {
			out = append(out, word+"  "+rest, word+" +"+rest, word+" 0"+rest, word+" -0"+rest[1:], word+" --1"+rest[1:], word+" - "+rest[1:], word+" 1_0"+rest[1:], word+" 0x1"+rest[1:], word+" 1.0"+rest[1:], word+" ٣"+rest[1:], word+" 1234567890"+rest[1:], word+" -1234567890"+rest[1:], word+" 00"+rest[1:], word+" :"+rest[1:], word+" /"+rest[1:])
		}
		if strings.Count(line, " ") > 0 && !strings.HasPrefix(line, "wire") {
			out = append(out, line[:strings.LastIndex(line, " ")]+" ", line+"x", line+".", line+"\r", line[:strings.LastIndex(line, " ")]+" -")
		}
	}
	return out
}

// TestNoLine is for P10.7: what is no line is ErrText, and changes nothing.
func TestNoLine(t *testing.T) {
	b := done(t, good()...)
	before := seen(t, suiteS(), b)
	for _, line := range noText() {
		if got, e := b.Do(line); got != "" || e != api.ErrText {
			t.Errorf("%q: %q %d", line, got, e)
		}
		if _, number, e := bureau.Replay(suiteS(), line+"\n"); !strings.Contains(line, "\n") && (number != 0 || e != api.ErrText) {
			t.Errorf("%q: %d %d", line, number, e)
		}
	}
	if after := seen(t, suiteS(), b); after != before {
		t.Error(before, after)
	}
}

// TestNumbers is for P10.7: numbers have up to 9 digits, and a line whose numbers are out of range is a line.
func TestNumbers(t *testing.T) {
	b := opened(t, suiteS())
	for _, n := range []string{"999999999", "-999999999", "100000000", "-1", "-100", "123456789"} {
		for _, line := range []string{
			"read " + n + " 0 480 1 76000 0 0 0 0 0 0", "read 0 0 480 " + n + " 76000 0 0 0 0 0 0", "read 0 0 480 1 76000 0 0 0 0 0 " + n, "read 0 0 480 1 76000 0 0 0 0 " + n + " -999",
			"wire " + n + " 0 75810.27030.92840", "wire 0 " + n + " 75810.27030.92840", "wire 0 0 " + n, "ship " + n + " 0 0 0 0", "ship 0 0 0 " + n + " -999", "ship 0 0 0 0 " + n,
			"report 0 0 0 0 0 0 " + n, "state 0 0 100 0 " + n, "state 0 0 " + n, "state 0 0 100 0 0 " + n, "came 0 0 " + n, "draw " + n, "low 0 0 " + n, "high 0 " + n + " 1", "ships " + n, "up 0 " + n,
		} {
			want := "error 2"
			if line == "ship 0 0 0 0 100" {
				want = "ok"
			}
			if got := answered(b.Do(line)); got != want && !(strings.HasPrefix(line, "up 0 ") && n == "100") {
				t.Error(line, got)
			}
		}
	}
	for _, line := range []string{"wire 0 0 -", "wire 0 0 .", "wire 0 0 x y z u", "wire 0 0 75810.27030.92840 75810.27030.92840 75810.27030.92840 75810.27030.92840", "wire 0 0 \t", "wire 0 0 75810.27030.92840\r", "wire 0 0 75810..92840", "wire 0 0 .75810.27030.92840", "wire 0 0 75810.27030.92840.", "wire 0 0 \xff\x00é", "state 0 0 100", "state 0 0 25 25 25 25"} {
		if got := answered(b.Do(line)); got != "error 2" {
			t.Errorf("%q: %s", line, got)
		}
	}
}

// TestLong is for P10.7 and P10.8: lines have 200 bytes at most, and texts 12000.
func TestLong(t *testing.T) {
	b := opened(t, suiteS())
	copies := strings.Repeat("é", 95) + "x"
	for line, want := range map[string]api.Errno{
		"wire 0 0 " + copies: api.ErrArg, "wire 0 0 " + copies + "x": api.ErrLong, strings.Repeat("x", 200): api.ErrText, strings.Repeat("x", 201): api.ErrLong,
		strings.Repeat("\n", 200): api.ErrText, strings.Repeat("\n", 201): api.ErrLong, "cost" + strings.Repeat(" ", 197): api.ErrLong,
		"state 0 0" + strings.Repeat(" 0", 95) + "0": api.ErrText, "state 0 0" + strings.Repeat(" 0", 95): api.ErrArg, "state 0 0" + strings.Repeat(" 0", 96): api.ErrLong,
	} {
		if got, e := b.Do(line); got != "" || e != want {
			t.Errorf("%q: %q %d", line, got, e)
		}
		row := strings.ReplaceAll(line, "\n", "x")
		if _, number, e := bureau.Replay(suiteS(), "came 0 0 1\n"+row+"\n"); number != 0 || e != api.ErrRule {
			t.Error(number, e)
		}
		if _, number, e := bureau.Replay(suiteS(), "state 0 0 100 0 0\n"+row+"\n"); number != 1 || e != want {
			t.Errorf("%q: %d %d", row, number, e)
		}
		if _, number, e := bureau.Replay(suiteS(), "state 0 0 100 0 0\n"+row); number != 1 || e != api.ErrText {
			t.Errorf("%q: %d %d", row, number, e)
		}
		if got, e := bureau.Console(suiteS(), "cost\n"+row+"\ncost"); got != "0\nerror "+text(int(want))+"\n0\n" || e != api.OK {
			t.Errorf("%q: %q %d", row, got, e)
		}
	}
	script := strings.Repeat("cost\n", 2400)
	if got, e := bureau.Console(suiteS(), script); got != strings.Repeat("0\n", 2400) || e != api.OK {
		t.Error(len(got), e)
	}
	if got, e := bureau.Console(suiteS(), script+"\n"); got != "" || e != api.ErrLong {
		t.Error(len(got), e)
	}
	if b, number, e := bureau.Replay(suiteS(), script); b != nil || number != 0 || e != api.ErrText {
		t.Error(number, e)
	}
	if b, number, e := bureau.Replay(suiteS(), script+"\n"); b != nil || number != -1 || e != api.ErrLong {
		t.Error(number, e)
	}
	if b, number, e := bureau.Replay(suiteS(), strings.Repeat("x", 12001)); b != nil || number != -1 || e != api.ErrLong {
		t.Error(number, e)
	}
}

// TestReplayErrors is for P10.8: a journal has lines of acts alone, each with a line feed.
func TestReplayErrors(t *testing.T) {
	first := "state 0 0 100 0 0\n"
	for _, x := range []struct {
		journal string
		number  int
		e       api.Errno
	}{
		{"", -1, api.OK}, {first, -1, api.OK}, {"\n", 0, api.ErrText}, {first + "\n", 1, api.ErrText}, {first + "\n" + first, 1, api.ErrText},
		{strings.TrimSuffix(first, "\n"), 0, api.ErrText}, {first + "came 0 0 1", 1, api.ErrText}, {first + "came 0 0 1\n", -1, api.OK}, {first + "came 0 0 1\n ", 2, api.ErrText},
		{first + first, 1, api.ErrState}, {first + "came 0 1 1\n", 1, api.ErrRule}, {first + "came 0 2 1\n", 1, api.ErrArg}, {first + "came 0 0\n", 1, api.ErrText},
		// what cannot be done comes first, and what is behind it does not matter
		{"came 0 0 1\nx\n", 0, api.ErrRule}, {"x\ncame 0 0 1\n", 0, api.ErrText}, {first + first + strings.Repeat("x", 300), 1, api.ErrState}, {"came 0 0 1", 0, api.ErrText},
		{first + strings.Repeat("x", 300), 1, api.ErrText}, {first + strings.Repeat("x", 300) + "\n", 1, api.ErrLong},
		{first + "draw 0\n", 1, api.ErrText}, {first + "see\n", 1, api.ErrText}, {first + "cost\n", 1, api.ErrText}, {"total\n", 0, api.ErrText}, {"low 0 3 75900\n", 0, api.ErrText}, {"high 0 3 75900\n", 0, api.ErrText},
		{"up 0 865\n", 0, api.ErrText}, {"ships 0\n", 0, api.ErrText}, {"pay\n", 0, api.ErrText}, {first + "\r\n", 1, api.ErrText},
	} {
		b, number, e := bureau.Replay(suiteS(), x.journal)
		if number != x.number || e != x.e || (b == nil) != (e != api.OK) {
			t.Errorf("%q: %d %d", x.journal, number, e)
		}
		if b != nil && journalOf(t, b) != x.journal {
			t.Errorf("%q: %q", x.journal, journalOf(t, b))
		}
	}
}

// TestConsoleLines is for P10.8: empty lines are passed over, the last line can be without a line feed, and each other line is answered.
func TestConsoleLines(t *testing.T) {
	for script, want := range map[string]string{
		"": "", "\n": "", "\n\n\n": "", "cost": "0\n", "cost\n": "0\n", "\ncost\n\ncost": "0\n0\n", " ": "error 4\n", "x\n\ny": "error 4\nerror 4\n", "ships 0": "ok\n", "came 0 0 1\ncame 0 0 0\n\nsee": "error 7\nerror 2\nerror 5\n",
		"ship 5 0 0 0 0\nships 0\nship 1 0 0 0 0\nships 0": "ok\n5\nok\n1 5\n", "cost\r\ncost": "error 4\n0\n", "draw 1\nlow 2 0 1": "49999 49999 49999 49999\nerror 2\n", "total\npay": "0 0\n500 500\n",
	} {
		if got, e := bureau.Console(suiteS(), script); got != want || e != api.OK {
			t.Errorf("%q: %q %d", script, got, e)
		}
	}
}

// FuzzLines looks for scripts that are answered otherwise than a desk answers them.
func FuzzLines(f *testing.F) {
	f.Add(strings.Join(good(), "\n"))
	for _, line := range noText() {
		f.Add(line)
	}
	f.Fuzz(func(t *testing.T, script string) {
		d, want := deskOf(suiteS()), ""
		for _, row := range strings.Split(script, "\n") {
			if row != "" {
				want += answered(d.do(row)) + "\n"
			}
		}
		got, e := bureau.Console(suiteS(), script)
		if len(script) > 12000 {
			if got != "" || e != api.ErrLong {
				t.Errorf("%q: %q %d", script, got, e)
			}
		} else if got != want || e != api.OK {
			t.Errorf("%q: %q %d, want %q", script, got, e, want)
		}
	})
}
