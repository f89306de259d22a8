package chart_test

import (
	"fmt"
	"strconv"
	"strings"
	"testing"

	"isobar/api"
	"isobar/chart"
)

// chapterText is the text of the drawn field of the chapter's map m.
const chapterText = `chart 4 3
76005 75935 75935 76000
75935 75860 75900 76000
75935 75900 76000 76040
end 70
`

// ended returns a text without its last line with this line, as the words of its lines make it.
func ended(lines string) string {
	sum := 0
	for row, line := range strings.Split(lines, "\n") {
		for i, word := range strings.Fields(line) {
			n, _ := strconv.Atoi(word)
			switch {
			case row == 0 && i == 1:
				sum += n
			case row > 0:
				sum += row * n
			}
		}
	}
	return fmt.Sprintf("%send %02d\n", lines, sum%97)
}

// TestPrintExamples is for P3.7.
func TestPrintExamples(t *testing.T) {
	widest := field(6)
	for range 30 {
		widest.Values = append(widest.Values, 99999)
	}
	full := "chart 6 5\n" + strings.Repeat(strings.Repeat("99999 ", 5)+"99999\n", 5)
	for i, x := range []struct {
		f    api.ChartField
		want string
	}{
		{drawnM(), chapterText},
		{drawnM(), ended(strings.SplitAfter(chapterText, "76040\n")[0])},
		{field(1, 0), "chart 1 1\n0\nend 01\n"},
		{field(1, 96), "chart 1 1\n96\nend 00\n"},
		{field(1, 0, 1, 2, 3, 99999), "chart 1 5\n0\n1\n2\n3\n99999\nend 78\n"},
		{field(6, 10, 0, 100, 20, 5, 7), "chart 6 1\n10 0 100 20 5 7\nend 51\n"},
		{widest, ended(full)},
	} {
		if s, e := chart.Print(x.f); s != x.want || e != api.OK {
			t.Errorf("%d %q %v", i, s, e)
		}
		if f, e := chart.Read(x.want); !same(f, x.f) || e != api.OK {
			t.Error(i, f, e)
		}
	}
	for i, f := range wrongFields() {
		if s, e := chart.Print(f); s != "" || e != api.ErrArg {
			t.Errorf("%d %q %v", i, s, e)
		}
	}
}

// TestReadForms is for P3.7: texts that have not the form.
func TestReadForms(t *testing.T) {
	for _, lines := range []string{
		// all of these get the CHECK that their numbers would have
		"", "\n", "chart\n", "chart 1\n", "chart 1 1\n", "chart 1 1 1\n0\n", "chart 1 1 \n0\n", " chart 1 1\n0\n", "chart  1 1\n0\n", "chart 1  1\n0\n", "chart\t1 1\n0\n", "Chart 1 1\n0\n", "charts 1 1\n0\n", "chart1 1\n0\n", "1 1\n0\n", "\nchart 1 1\n0\n",
		"chart 01 1\n0\n", "chart 1 01\n0\n", "chart +1 1\n0\n", "chart -1 1\n0\n", "chart 1 -1\n0\n", "chart x 1\n0\n", "chart 1 x\n0\n", "chart 000001 1\n0\n", "chart 100000 0\n", "chart 1 100000\n0\n", "chart \u0661 1\n0\n", "chart 99999999999999999999 0\n",
		"chart 1 1\n00\n", "chart 1 1\n01\n", "chart 1 1\n+1\n", "chart 1 1\n-1\n", "chart 1 1\n-0\n", "chart 1 1\n100000\n", "chart 1 1\n000001\n", "chart 1 1\n1x\n", "chart 1 1\nx\n", "chart 1 1\n1.0\n", "chart 1 1\n1_0\n", "chart 1 1\n0x1\n", "chart 1 1\n1\xff\n", "chart 1 1\n\u0661\n", "chart 1 1\n1\x00\n", "chart 1 1\n1e1\n",
		"chart 1 1\n1 \n", "chart 1 1\n 1\n", "chart 1 1\n\n", "chart 1 1\n1\r\n", "chart 1 1\r\n1\n", "chart 1 1\n1\n\n", "chart 1 1\n\n1\n", "chart 1 1\n1 1\n", "chart 1 1\n1\n1\n", "chart 1 2\n1\n", "chart 2 1\n1\n", "chart 2 1\n1\n1\n", "chart 1 2\n1 1\n", "chart 2 1\n1  1\n", "chart 2 1\n1\t1\n", "chart 2 1\n1,1\n", "chart 2 2\n1 1\n1\n", "chart 2 2\n1 1 1\n1\n", "chart 2 2\n1 1 1 1\n",
		"chart 0 1\n", "chart 0 1\n0\n", "chart 0 1\n \n", "chart 0 2\n\n", "chart 0 1\n\n\n", "chart 1 0\n\n", "chart 1 0\n1\n", "chart 7 1\n1 1 1 1 1 1\n", "chart 99999 1\n1\n", "chart 1 99999\n1\n", "chart 0 99999\n\n",
		"chart 1 1\nend 02\n1\n", "chart 1 1\n1\nend 02\n",
	} {
		if f, e := chart.Read(ended(lines)); !isNone(f) || e != api.ErrText {
			t.Errorf("%q %v %v", ended(lines), f, e)
		}
	}
	for _, text := range []string{
		"chart 1 1\n1\n", "chart 1 1\n1\nend 02", "chart 1 1\n1\nend 2\n", "chart 1 1\n1\nend 002\n", "chart 1 1\n1\nend 03\n", "chart 1 1\n1\nend 99\n", "chart 1 1\n1\nend  02\n", "chart 1 1\n1\nend 02 \n", "chart 1 1\n1\n end 02\n", "chart 1 1\n1\nEnd 02\n", "chart 1 1\n1\nend\n", "chart 1 1\n1\n02\n", "chart 1 1\n1\nend 02\n\n", "chart 1 1\n1\nend 02\nend 02\n", "chart 1 1\n1\nend 02\r\n", "chart 1 1\n1end 02\n", "chart 1 1\n1 end 02\n", "chart 1 1 1 end 02\n", "chart 1 1\n1\nend02\n", "chart 1 1\n1\nend xx\n", "chart 1 1\n1\nend -2\n", "chart 1 1\n96\nend 97\n", "chart 1 0", "chart 1 1\n1", strings.TrimPrefix(chapterText, "chart "), strings.Replace(chapterText, "end 70", "end 71", 1),
	} {
		if f, e := chart.Read(text); !isNone(f) || e != api.ErrText {
			t.Errorf("%q %v %v", text, f, e)
		}
	}
}

// TestReadErrors is for P3.7: texts of fields that are not as defined, and the order of errors.
func TestReadErrors(t *testing.T) {
	for i, x := range []struct {
		text string
		want api.Errno
	}{
		{ended("chart 0 1\n\n"), api.ErrArg},
		{ended("chart 0 3\n\n\n\n"), api.ErrArg},
		{ended("chart 0 0\n"), api.ErrArg},
		{ended("chart 1 0\n"), api.ErrArg},
		{ended("chart 99999 0\n"), api.ErrArg},
		{ended("chart 7 1\n1 2 3 4 5 6 7\n"), api.ErrArg},
		{ended("chart 1 6\n1\n2\n3\n4\n5\n6\n"), api.ErrArg},
		{ended("chart 7 6\n" + strings.Repeat("1 2 3 4 5 6 7\n", 6)), api.ErrArg},
		{"chart 7 1\n1 2 3 4 5 6 7\nend 34\n", api.ErrText},
		{"chart 0 1\n\nend 01\n", api.ErrText},
		{"chart 1 0\nend 00\n", api.ErrText},
		{ended("chart 0 200\n" + strings.Repeat("\n", 200)), api.ErrArg},
		// 400 bytes, and one more
		{ended("chart 0 381\n" + strings.Repeat("\n", 381)), api.ErrArg},
		{ended("chart 0 382\n" + strings.Repeat("\n", 382)), api.ErrLong},
		{strings.Repeat("x", 400), api.ErrText},
		{strings.Repeat("x", 401), api.ErrLong},
		{chapterText + strings.Repeat("\n", 400), api.ErrLong},
	} {
		if f, e := chart.Read(x.text); !isNone(f) || e != x.want {
			t.Error(i, f, e)
		}
	}
}

// TestSheetsAgain is for P3.7: what was written is read, and a digit that was changed is noticed.
func TestSheetsAgain(t *testing.T) {
	d := dice(40)
	for range 60 {
		f := field(d.from(1, 6))
		for range f.Wide * d.from(1, 5) {
			f.Values = append(f.Values, d.among(d.from(0, 99999), d.from(0, 9), d.from(75000, 77000)))
		}
		text, e := chart.Print(f)
		if e != api.OK || text != ended(text[:strings.Index(text, "end")]) {
			t.Fatalf("%v %q %v", f, text, e)
		}
		if back, e := chart.Read(text); !same(back, f) || e != api.OK {
			t.Fatalf("%v %q %v %v", f, text, back, e)
		}
		for place := range len(text) {
			for digit := byte('0'); digit <= '9'; digit++ {
				if text[place] < '0' || text[place] > '9' || text[place] == digit {
					continue
				}
				changed := text[:place] + string(rune(digit)) + text[place+1:]
				if back, e := chart.Read(changed); !isNone(back) || e != api.ErrText {
					t.Fatalf("%q %v %v", changed, back, e)
				}
			}
		}
	}
}

// TestReadAgain is for P3.7: what is read is written the same, whatever was done to a text.
func TestReadAgain(t *testing.T) {
	d := dice(41)
	read := 0
	for range 30000 {
		f := d.anyField()
		text, _ := chart.Print(f)
		lines := text[:strings.Index(text, "end")]
		for range d.IntN(3) {
			place := d.IntN(len(lines) - 1)
			letter := d.IntN(13)
			lines = lines[:place] + "0123456789 -\n"[letter:letter+1] + lines[place+d.IntN(2):]
		}
		text = ended(lines)
		back, e := chart.Read(text)
		if e != api.OK {
			continue
		}
		read++
		if again, e := chart.Print(back); again != text || e != api.OK {
			t.Fatalf("%q %v %q %v", text, back, again, e)
		}
	}
	if read < 10000 {
		t.Error("too few texts were read:", read)
	}
}
