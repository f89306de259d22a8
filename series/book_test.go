package series_test

import (
	"fmt"
	"slices"
	"strings"
	"testing"

	"isobar/api"
	"isobar/series"
)

// chapterText is the text of the chapter's suite s.
const chapterText = `series 1871 2 14
1871 0 90 92
1872 0 100 102
1873 0 -
1874 1 110 112
1875 1 95 97
check 0 1 -8 -4
end 026
`

// ended returns some lines with the line that ends their text.
func ended(lines string) string {
	sum, row := 0, 0
	for i := range len(lines) {
		if lines[i] == '\n' {
			row++
			continue
		}
		sum += int(lines[i]) * (row%10 + 1)
	}
	return fmt.Sprintf("%send %03d\n", lines, sum%101)
}

// TestPrint is for P8.6: the chapter's example, and the edges.
func TestPrint(t *testing.T) {
	full := "series 9999 4 500\n"
	for year := 9999; year < 10009; year += 2 {
		full += fmt.Sprintf("%d 3 1000 1000\n%d 0 -1000 1000\n", year, year+1)
	}
	full += strings.Repeat("check 0 3 -400 400\ncheck 2 1 400 400\n", 3)
	early := with(suiteOf(3, 0, read(2, -1, 0), unread(0)), check(2, 0, 0, 7))
	for i, x := range []struct {
		s    api.SeriesSuite
		want string
	}{
		{suiteS(), chapterText},
		{suiteS(), ended(strings.TrimSuffix(chapterText, "end 026\n"))},
		{largest(), ended(full)},
		{early, ended("series 0 3 0\n0 2 -1 0\n1 0 -\ncheck 2 0 0 7\n")},
		{suiteOf(1, 0, unread(0)), ended("series 0 1 0\n0 0 -\n")},
		// a suite that is not possible
		{suiteJ(), strings.Replace(strings.Replace(chapterText, "95 97", "80 81", 1), "end 026", ended(strings.Replace(strings.TrimSuffix(chapterText, "end 026\n"), "95 97", "80 81", 1))[len(chapterText)-8:len(chapterText)-1], 1)},
	} {
		if text, e := series.Print(x.s); text != x.want || e != api.OK {
			t.Errorf("%d %q %v", i, text, e)
		}
		if s, e := series.Read(x.want); !same(s, x.s) || e != api.OK {
			t.Error(i, s, e)
		}
	}
}

// TestCheckLine is for P8.6: CHECK of texts that are worked out by hand, the factors of lines after the tenth one, and all rests.
func TestCheckLine(t *testing.T) {
	// the bytes of series 0 1 0, and those of 0 0 -, which count twice
	const head, year = 's' + 'e' + 'r' + 'i' + 'e' + 's' + 3*32 + 2*'0' + '1', 2*'0' + 2*32 + '-'
	for first := range 10 {
		want := fmt.Sprintf("series %d 1 0\n%d 0 -\nend %03d\n", first, first, (head+first+2*(year+first))%101)
		s := suiteOf(1, 0, unread(0))
		s.First = first
		if text, e := series.Print(s); text != want || e != api.OK {
			t.Errorf("%d %q %q %v", first, text, want, e)
		}
	}
	// the eleventh line counts once, as the first one does, and the twelfth one twice
	long := suiteOf(2, 0, slices.Repeat([]api.SeriesYear{unread(0)}, 10)...)
	lone := with(long, check(0, 1, 0, 0))
	two := with(lone, check(0, 1, 0, 0))
	line := int('c' + 'h' + 'e' + 'c' + 'k' + 4*32 + 3*'0' + '1')
	var sums []int
	for _, s := range []api.SeriesSuite{long, lone, two} {
		text, e := series.Print(s)
		var sum int
		if _, err := fmt.Sscanf(text[len(text)-4:], "%d", &sum); err != nil || e != api.OK {
			t.Fatal(text, err, e)
		}
		sums = append(sums, sum)
	}
	if (sums[0]+2*line)%101 != sums[1] || (sums[1]+3*line)%101 != sums[2] {
		t.Error(sums, line)
	}
	rests := map[int]int{}
	d := dice(16)
	for range 3000 {
		s, _ := d.planted(4, 10, 6, 500, 100)
		text, _ := series.Print(s)
		var sum int
		fmt.Sscanf(text[len(text)-4:], "%d", &sum)
		rests[sum]++
	}
	if len(rests) != 101 {
		t.Error(rests)
	}
}

// TestReadForms is for P8.6: texts that have not the form, with the CHECK that their lines would have.
func TestReadForms(t *testing.T) {
	for _, lines := range []string{
		"", "\n", "series\n", "series 0\n", "series 0 1\n", "series 0 1 0 0\n0 0 -\n", "series 0 1 0 \n0 0 -\n", " series 0 1 0\n0 0 -\n", "series  0 1 0\n0 0 -\n", "series 0  1 0\n0 0 -\n", "series\t0 1 0\n0 0 -\n", "Series 0 1 0\n0 0 -\n", "serie 0 1 0\n0 0 -\n", "seriess 0 1 0\n0 0 -\n", "series0 1 0\n0 0 -\n", "0 1 0\n0 0 -\n", "\nseries 0 1 0\n0 0 -\n", "check 0 1 0\n0 0 -\n", " 0 1 0\n0 0 -\n", "0 0 -\n",
		"series 00 1 0\n0 0 -\n", "series 0 01 0\n0 0 -\n", "series 0 1 00\n0 0 -\n", "series -0 1 0\n0 0 -\n", "series +0 1 0\n0 0 -\n", "series 0 1 -0\n0 0 -\n", "series 0 1 -\n0 0 -\n", "series x 1 0\n0 0 -\n", "series 0 x 0\n0 0 -\n", "series 0 1 x\n0 0 -\n", "series 0 1 100000\n0 0 -\n", "series 0 1 000001\n0 0 -\n", "series 0 1 -100000\n0 0 -\n", "series \u0661 1 0\n1 0 -\n", "series 100000 1 0\n100000 0 -\n", "series 0 1 99999999999999999999\n0 0 -\n",
		"series 0 1 0\n1 0 -\n", "series 1 1 0\n0 0 -\n", "series 5 1 0\n5 0 -\n5 0 -\n", "series 5 1 0\n5 0 -\n7 0 -\n", "series 5 1 0\n6 0 -\n5 0 -\n", "series 5 1 0\n5 0 -\n4 0 -\n", "series 99999 1 0\n99999 0 -\n100000 0 -\n",
		"series 0 1 0\n00 0 -\n", "series 0 1 0\n-0 0 -\n", "series 0 1 0\n+0 0 -\n", "series 0 1 0\n0 00 -\n", "series 0 1 0\n0 -0 -\n", "series 0 1 0\n0 - -\n", "series 0 1 0\n- 0 -\n", "series 0 1 0\n0 0 --\n", "series 0 1 0\n0 0 - -\n", "series 0 1 0\n0 0 0\n", "series 0 1 0\n0 0 x\n", "series 0 1 0\n0 0 \n", "series 0 1 0\n0 0\n", "series 0 1 0\n0 -\n", "series 0 1 0\n0\n", "series 0 1 0\n-\n", "series 0 1 0\n0 0 - \n", "series 0 1 0\n 0 0 -\n", "series 0 1 0\n0  0 -\n", "series 0 1 0\n0 0  -\n", "series 0 1 0\n0\t0 -\n", "series 0 1 0\n0 0 -1\n", "series 0 1 0\n0 0 -\r\n", "series 0 1 0\r\n0 0 -\n",
		"series 0 1 0\n0 0 0 -\n", "series 0 1 0\n0 0 - 0\n", "series 0 1 0\n0 0 0 0 0\n", "series 0 1 0\n0 0 0 0 \n", "series 0 1 0\n0 0 00 0\n", "series 0 1 0\n0 0 0 -0\n", "series 0 1 0\n0 0 -0 0\n", "series 0 1 0\n0 0 -01 0\n", "series 0 1 0\n0 0 --1 0\n", "series 0 1 0\n0 0 1- 2\n", "series 0 1 0\n0 0 0x1 2\n", "series 0 1 0\n0 0 1_0 20\n", "series 0 1 0\n0 0 1.0 2\n", "series 0 1 0\n0 0 1e1 20\n", "series 0 1 0\n0 0 000001 2\n", "series 0 1 0\n0 0 0 100000\n", "series 0 1 0\n0 0 -100000 0\n", "series 0 1 0\n0 0 1\xff 2\n", "series 0 1 0\n0 0 \u0661 2\n", "series 0 1 0\n0 0 1\x00 2\n", "series 0 1 0\n0 0 1: 2\n", "series 0 1 0\n0 0 1/ 2\n", "series 0 1 0\n0 0 0 99999999999999999999\n", "series 0 1 0\n0 0 0 18446744073709551616\n",
		"series 0 1 0\n0 0 -\n\n", "series 0 1 0\n\n0 0 -\n", "series 0 1 0\nseries 0 1 0\n0 0 -\n", "series 0 1 0\n0 0 -\n ", "series 0 1 0\n0 0 -\nx\n", "series 0 1 0\n0 0 -\nend 000\n", "series 0 1 0\n0 0 - 1 0 -\n", "series 0 1 0 0 0 -\n",
		"series 0 2 0\n0 0 -\ncheck\n", "series 0 2 0\n0 0 -\ncheck 0\n", "series 0 2 0\n0 0 -\ncheck 0 1\n", "series 0 2 0\n0 0 -\ncheck 0 1 0\n", "series 0 2 0\n0 0 -\ncheck 0 1 -\n", "series 0 2 0\n0 0 -\ncheck 0 1 0 0 0\n", "series 0 2 0\n0 0 -\ncheck 0 1 0 0 \n", "series 0 2 0\n0 0 -\ncheck  0 1 0 0\n", "series 0 2 0\n0 0 -\n check 0 1 0 0\n", "series 0 2 0\n0 0 -\nCheck 0 1 0 0\n", "series 0 2 0\n0 0 -\nchecks 0 1 0 0\n", "series 0 2 0\n0 0 -\n0 1 0 0\n", "series 0 2 0\n0 0 -\ncheck 00 1 0 0\n", "series 0 2 0\n0 0 -\ncheck 0 01 0 0\n", "series 0 2 0\n0 0 -\ncheck 0 1 -0 0\n", "series 0 2 0\n0 0 -\ncheck 0 1 0 00\n", "series 0 2 0\n0 0 -\ncheck 0 1 -100000 0\n", "series 0 2 0\n0 0 -\ncheck 0 1 - 0\n", "series 0 2 0\n0 0 -\ncheck x 1 0 0\n",
		// comparisons come after all years
		"series 0 2 0\ncheck 0 1 0 0\n0 0 -\n", "series 0 2 0\n0 0 -\ncheck 0 1 0 0\n1 0 -\n", "check 0 1 0 0\nseries 0 2 0\n0 0 -\n",
	} {
		if s, e := series.Read(ended(lines)); !same(s, api.SeriesSuite{}) || e != api.ErrText {
			t.Errorf("%q %v %v", ended(lines), s, e)
		}
	}
	right := ended("series 0 1 0\n0 0 -\n")
	if s, e := series.Read(right); !same(s, suiteOf(1, 0, unread(0))) || e != api.OK {
		t.Fatal(s, e)
	}
	lines, sum := right[:len(right)-8], right[len(right)-4:len(right)-1]
	for _, end := range []string{
		"", "\n", "end\n", "end \n", "end " + sum, "end " + sum[1:] + "\n", "end 0" + sum + "\n", "end  " + sum + "\n", "end " + sum + " \n", " end " + sum + "\n", "End " + sum + "\n", "end" + sum + "\n", sum + "\n", "ends " + sum + "\n", "end " + sum + "\n\n", "\nend " + sum + "\n", "end " + sum + "\nend " + sum + "\n", "end " + sum + "\r\n", "end " + sum + "\n ", "end -33\n", "end xxx\n", "end 101\n", "end 134\n", "end 000\n", "end 034\n", "end 032\n",
	} {
		if s, e := series.Read(lines + end); !same(s, api.SeriesSuite{}) || e != api.ErrText {
			t.Errorf("%q %v %v", lines+end, s, e)
		}
	}
	for _, text := range []string{lines[:len(lines)-1] + "end " + sum + "\n", lines[:len(lines)-1] + " end " + sum + "\n", "series 0 1 0", "series 0 1 0\n", "series 0 1 0\n\n", "end 000\n", "end 000\n\n", "series 0 1 0end 000\n", chapterText + chapterText, strings.TrimSuffix(chapterText, "\n"), "\n" + chapterText, strings.Replace(chapterText, "026", "127", 1), strings.Replace(chapterText, "026", "26", 1)} {
		if s, e := series.Read(text); !same(s, api.SeriesSuite{}) || e != api.ErrText {
			t.Errorf("%q %v %v", text, s, e)
		}
	}
}

// TestReadErrors is for P8.6: texts of suites that are not as defined, and the order of errors.
func TestReadErrors(t *testing.T) {
	row := func(count int) string {
		lines := "series 0 1 0\n"
		for year := range count {
			lines += fmt.Sprintf("%d 0 -\n", year)
		}
		return lines
	}
	for i, x := range []struct {
		text string
		want api.Errno
	}{
		{ended("series -1 1 0\n-1 0 -\n0 0 -\n"), api.ErrArg},
		{ended("series -99999 1 0\n-99999 0 -\n-99998 0 -\n"), api.ErrArg},
		{ended("series 10000 1 0\n10000 0 -\n"), api.ErrArg},
		{ended("series 99999 1 0\n99999 0 -\n"), api.ErrArg},
		{ended("series 9999 1 0\n9999 0 -\n10000 0 -\n"), api.OK},
		{ended("series 0 0 0\n0 0 -\n"), api.ErrArg},
		{ended("series 0 5 0\n0 0 -\n"), api.ErrArg},
		{ended("series 0 -1 0\n0 0 -\n"), api.ErrArg},
		{ended("series 0 1 -1\n0 0 -\n"), api.ErrArg},
		{ended("series 0 1 501\n0 0 -\n"), api.ErrArg},
		{ended("series 0 1 0\n"), api.ErrArg},
		{ended("series 0 2 0\ncheck 0 1 0 0\n"), api.ErrArg},
		{ended("series 0 2 0\n0 2 -\n"), api.ErrArg},
		{ended("series 0 2 0\n0 -1 -\n"), api.ErrArg},
		{ended("series 0 2 0\n0 0 1 0\n"), api.ErrArg},
		{ended("series 0 2 0\n0 0 0 1001\n"), api.ErrArg},
		{ended("series 0 2 0\n0 0 -1001 0\n"), api.ErrArg},
		{ended("series 0 2 0\n0 0 -99999 99999\n"), api.ErrArg},
		{ended("series 0 2 0\n0 0 -\ncheck 0 0 0 0\n"), api.ErrArg},
		{ended("series 0 2 0\n0 0 -\ncheck 0 2 0 0\n"), api.ErrArg},
		{ended("series 0 2 0\n0 0 -\ncheck -1 0 0 0\n"), api.ErrArg},
		{ended("series 0 2 0\n0 0 -\ncheck 0 1 1 0\n"), api.ErrArg},
		{ended("series 0 2 0\n0 0 -\ncheck 0 1 -401 0\n"), api.ErrArg},
		{ended("series 0 2 0\n0 0 -\ncheck 0 1 0 401\n"), api.ErrArg},
		{ended("series 0 2 0\n0 0 -\n" + strings.Repeat("check 0 1 0 0\n", 6)), api.OK},
		{ended("series 0 2 0\n0 0 -\n" + strings.Repeat("check 0 1 0 0\n", 7)), api.ErrArg},
		{ended(row(10)), api.OK},
		{ended(row(11)), api.ErrArg},
		{ended(row(83)), api.ErrArg},
		// the form, and CHECK, come first
		{"series 0 5 0\n0 0 -\nend 000\n", api.ErrText},
		{ended("series 0 5 0\n1 0 -\n"), api.ErrText},
		// 600 bytes, and one more
		{ended(row(82) + "82 0 123 12345\n"), api.ErrArg},
		{ended(row(82) + "82 0 1234 12345\n"), api.ErrLong},
		{strings.Repeat("x", 600), api.ErrText},
		{strings.Repeat("x", 601), api.ErrLong},
		{strings.Repeat("\n", 600), api.ErrText},
		{chapterText + strings.Repeat("\n", 600), api.ErrLong},
	} {
		if s, e := series.Read(x.text); e != x.want || e != api.OK && !same(s, api.SeriesSuite{}) {
			t.Error(i, len(x.text), s, e)
		}
	}
	if n := len(ended(row(82) + "82 0 123 12345\n")); n != 600 {
		t.Error(n)
	}
}

// TestBooksAgain is for P8.6: what was written is read as what was written, and a byte that was changed is noticed.
func TestBooksAgain(t *testing.T) {
	d := dice(17)
	for i := range 15 {
		s := d.suite(d.among(1, 10, 1000))
		if i == 0 {
			s = largest()
		}
		text, e := series.Print(s)
		if e != api.OK || text != ended(text[:len(text)-8]) {
			t.Fatal(s, text, e)
		}
		if back, e := series.Read(text); !same(back, s) || e != api.OK {
			t.Fatal(s, text, back, e)
		}
		changed := []byte(text)
		for place := range changed {
			for by := byte(1); by != 0; by++ {
				changed[place] += by
				if back, e := series.Read(string(changed)); !same(back, api.SeriesSuite{}) || e != api.ErrText {
					t.Fatalf("%q %v %v", changed, back, e)
				}
				changed[place] -= by
			}
		}
	}
}

// TestReadAgain is for P8.6: what is read is written the same, whatever was done to a text.
func TestReadAgain(t *testing.T) {
	d := dice(18)
	counts := map[api.Errno]int{}
	for range 60000 {
		s, _ := d.planted(4, 3, 2, 500, 10)
		text, _ := series.Print(s)
		lines := text[:len(text)-8]
		for range d.IntN(4) {
			place := d.IntN(len(lines) - 1)
			letter := d.IntN(13)
			lines = lines[:place] + "0123456789 -\n"[letter:letter+1] + lines[place+d.IntN(2):]
		}
		text = ended(lines)
		back, e := series.Read(text)
		counts[e]++
		if e != api.OK {
			continue
		}
		if again, e := series.Print(back); again != text || e != api.OK {
			t.Fatalf("%q %v %q %v", text, back, again, e)
		}
	}
	if counts[api.OK] < 10000 || counts[api.ErrText] < 10000 || counts[api.ErrArg] < 1000 {
		t.Error("too few of a kind:", counts)
	}
}
