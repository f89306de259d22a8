package glass_test

import (
	"slices"
	"strconv"
	"strings"
	"testing"

	"isobar/api"
	"isobar/glass"
)

// chapterText is the text of the sheet with the chapter's reading r alone.
const chapterText = "20 480 s 75050 200 210 150 152 120 121\nend 46\n"

// zeroRow is a line of a reading.
const zeroRow = "0 0 r 75000 0 0 0 0 0 0\n"

// closed returns some lines with the line that ends their text.
func closed(lines string) string {
	var digits []int
	for i := range len(lines) {
		if strings.IndexByte("0123456789", lines[i]) >= 0 {
			digits = append(digits, int(lines[i]-'0'))
		}
	}
	sum := 0
	for i, digit := range digits {
		sum += digit * []int{1, 2, 3, 4, 5, 6, 7, 8}[i%8]
	}
	check := strconv.Itoa(sum % 97)
	return lines + "end " + strings.Repeat("0", 2-len(check)) + check + "\n"
}

// TestPrintExamples is for P1.7.
func TestPrintExamples(t *testing.T) {
	cold := api.GlassReading{Day: 400, Minute: 1439, Clock: api.GlassEither, Mercury: 40000, Attached: span(-300, -1), Wet: span(-7, 500)}
	rail := api.GlassReading{Clock: api.GlassRail, Mercury: 90000}
	for i, x := range []struct {
		l    []api.GlassReading
		want string
	}{
		{nil, "end 00\n"},
		{[]api.GlassReading{}, "end 00\n"},
		{[]api.GlassReading{firstReading()}, chapterText},
		{[]api.GlassReading{cold}, closed("400 1439 e 40000 -300 -1 0 0 -7 500\n")},
		// a 9 is the third digit
		{[]api.GlassReading{rail}, "0 0 r 90000 0 0 0 0 0 0\nend 27\n"},
		// and the sixteenth one, too: digits are counted on from line to line
		{[]api.GlassReading{rail, rail}, "0 0 r 90000 0 0 0 0 0 0\n0 0 r 90000 0 0 0 0 0 0\nend 02\n"},
	} {
		if s, e := glass.Print(x.l); e != api.OK || s != x.want {
			t.Errorf("%d %q %v", i, s, e)
		}
		if l, e := glass.Read(x.want); e != api.OK || !slices.Equal(l, x.l) {
			t.Error(i, l, e)
		}
	}
}

// TestPrintErrors is for P1.7.
func TestPrintErrors(t *testing.T) {
	for i, r := range wrongReadings() {
		if s, e := glass.Print([]api.GlassReading{firstReading(), r}); e != api.ErrArg || s != "" {
			t.Errorf("%d %q %v", i, s, e)
		}
	}
	full := slices.Repeat([]api.GlassReading{firstReading()}, 20)
	if _, e := glass.Print(full); e != api.OK {
		t.Error(e)
	}
	if s, e := glass.Print(append(full, firstReading())); e != api.ErrLong || s != "" {
		t.Error(s, e)
	}
	if s, e := glass.Print(make([]api.GlassReading, 21)); e != api.ErrLong || s != "" {
		t.Error(s, e)
	}
}

// TestReadForms is for P1.7: texts that have not the form, all with the CHECK that their digits would have.
func TestReadForms(t *testing.T) {
	if l, e := glass.Read(closed(zeroRow)); e != api.OK || len(l) != 1 {
		t.Fatal(l, e)
	}
	for _, lines := range []string{
		"\n", " \n", "x\n", "0\n", "end\n", "END 00\n", "\n" + zeroRow, zeroRow + "\n",
		"0 0 r 75000 0 0 0 0 0\n", "0 0 r 75000 0 0 0 0 0 0 0\n", "0 0 r 75000 0 0 0 0 0 0 \n", " 0 0 r 75000 0 0 0 0 0 0\n",
		"0  0 r 75000 0 0 0 0 0 0\n", "0\t0 r 75000 0 0 0 0 0 0\n", "0 0 r 75000 0 0 0 0 0 0\r\n", "0\n0 r 75000 0 0 0 0 0 0\n",
		"00 0 r 75000 0 0 0 0 0 0\n", "0 -0 r 75000 0 0 0 0 0 0\n", "0 +0 r 75000 0 0 0 0 0 0\n", "0 - r 75000 0 0 0 0 0 0\n",
		"0 0 r 075000 0 0 0 0 0 0\n", "0 0 r 750000 0 0 0 0 0 0\n", "0 0 r 75000 -01 0 0 0 0 0\n", "0 0 r 75000 --1 0 0 0 0 0\n",
		"0 0 r 75000 -100000 0 0 0 0 0\n", "0 0 r 75000 1- 0 0 0 0 0\n", "0 0 r 7500x 0 0 0 0 0 0\n", "0 0 r 0x100 0 0 0 0 0 0\n",
		"0 0 r 7_500 0 0 0 0 0 0\n", "0 0 r 75.00 0 0 0 0 0 0\n", "0 0 r \u0667 0 0 0 0 0 0\n", "0 0 r 7500\xb0 0 0 0 0 0 0\n",
		"0 0 r 75000 0 0 0 0 0 \x00\n", "0 0 x 75000 0 0 0 0 0 0\n", "0 0 R 75000 0 0 0 0 0 0\n", "0 0 rs 75000 0 0 0 0 0 0\n",
		"0 0  75000 0 0 0 0 0 0\n", "0 0 1 75000 0 0 0 0 0 0\n", "0 0 75000 0 0 0 0 0 0\n", "r 0 0 75000 0 0 0 0 0 0\n",
		zeroRow + "0 0 r 75000\n" + zeroRow, zeroRow + "end 41\n" + zeroRow,
	} {
		if l, e := glass.Read(closed(lines)); e != api.ErrText || len(l) != 0 {
			t.Errorf("%q %v %v", lines, l, e)
		}
	}
	for _, text := range []string{
		"", "\n", "end", "end 00", "end 0\n", "end 000\n", "end  00\n", "end 00 \n", " end 00\n", "end 00\n\n", "end 00\nend 00\n", "end -0\n", "end 01\n", "end 97\n", "end xx\n", "end00\n", "ends 00\n", "en\n",
		zeroRow, zeroRow + "end 41", zeroRow + "end 42\n", zeroRow + "end 138\n", zeroRow + "41\n", zeroRow + "end 41\n ", strings.TrimSuffix(zeroRow, "\n") + "end 41\n", strings.TrimSuffix(zeroRow, "\n") + " end 41\n",
	} {
		if l, e := glass.Read(text); e != api.ErrText || len(l) != 0 {
			t.Errorf("%q %v %v", text, l, e)
		}
	}
}

// TestReadErrors is for P1.7: readings that are not as defined, and the order of errors.
func TestReadErrors(t *testing.T) {
	for i, lines := range []string{
		"401 0 r 75000 0 0 0 0 0 0\n", "-1 0 r 75000 0 0 0 0 0 0\n", "0 1440 r 75000 0 0 0 0 0 0\n", "0 -1 r 75000 0 0 0 0 0 0\n",
		"0 0 r 39999 0 0 0 0 0 0\n", "0 0 r 90001 0 0 0 0 0 0\n", "0 0 r -75000 0 0 0 0 0 0\n", "0 0 r 75000 1 0 0 0 0 0\n",
		"0 0 r 75000 0 501 0 0 0 0\n", "0 0 r 75000 0 0 -301 0 0 0\n", "0 0 r 75000 0 0 0 0 0 -1\n", "99999 99999 e -99999 0 0 0 0 0 0\n",
		zeroRow + "0 0 r 39999 0 0 0 0 0 0\n",
	} {
		if l, e := glass.Read(closed(lines)); e != api.ErrArg || len(l) != 0 {
			t.Error(i, l, e)
		}
	}
	wrong := "0 0 r 39999 0 0 0 0 0 0\n"
	for i, x := range []struct {
		text string
		want api.Errno
	}{
		{closed(strings.Repeat(zeroRow, 20)), api.OK},
		{closed(strings.Repeat(zeroRow, 21)), api.ErrLong},
		{closed(strings.Repeat(wrong, 20)), api.ErrArg},
		{closed(strings.Repeat(wrong, 21)), api.ErrLong},
		{strings.Repeat(wrong, 20) + "end\n", api.ErrText},
		{strings.Repeat(wrong, 21) + "end\n", api.ErrText},
		{strings.Repeat("x", 3000), api.ErrText},
		{strings.Repeat("x", 3001), api.ErrLong},
		{closed(strings.Repeat(zeroRow, 124)), api.ErrLong},
		{closed(strings.Repeat(zeroRow, 1000)), api.ErrLong},
		// 20 lines of the greatest length have less than 1000 bytes
		{closed(strings.Repeat("400 1439 e 90000 -300 -300 -300 -300 -300 -300\n", 20)), api.OK},
	} {
		if l, e := glass.Read(x.text); e != x.want || e != api.OK && len(l) != 0 {
			t.Error(i, l, e)
		}
	}
}

// TestSheetsAgain is for P1.7: what was written is read, and a digit that was changed is noticed.
func TestSheetsAgain(t *testing.T) {
	d := dice(17)
	for range 40 {
		var l []api.GlassReading
		for range d.IntN(21) {
			l = append(l, anyReading(d, 800))
		}
		text, e := glass.Print(l)
		if e != api.OK || text != closed(strings.SplitAfter(text, "end ")[0][:strings.Index(text, "end ")]) {
			t.Fatalf("%v %q %v", l, text, e)
		}
		if back, e := glass.Read(text); e != api.OK || !slices.Equal(back, l) {
			t.Fatalf("%v %q %v %v", l, text, back, e)
		}
		for at := range len(text) {
			for digit := byte('0'); digit <= '9'; digit++ {
				if text[at] < '0' || text[at] > '9' || text[at] == digit {
					continue
				}
				changed := text[:at] + string(digit) + text[at+1:]
				if back, e := glass.Read(changed); e != api.ErrText || len(back) != 0 {
					t.Fatalf("%q %v %v", changed, back, e)
				}
			}
		}
	}
}

// TestReadAgain is for P1.7: what is read is written the same, whatever was done to a text.
func TestReadAgain(t *testing.T) {
	d := dice(27)
	read := 0
	for range 20000 {
		lines := ""
		for range d.IntN(3) {
			one, e := glass.Print([]api.GlassReading{anyReading(d, 800)})
			if e != api.OK {
				t.Fatal(e)
			}
			lines += one[:strings.Index(one, "end")]
		}
		bytes := []byte(lines)
		for range d.IntN(3) {
			if len(bytes) > 0 {
				at := d.IntN(len(bytes))
				bytes = slices.Replace(bytes, at, at+d.IntN(2), "0123456789 -rse\n"[d.IntN(16)])
			}
		}
		text := closed(string(bytes))
		l, e := glass.Read(text)
		if e != api.OK {
			continue
		}
		read++
		if again, e := glass.Print(l); e != api.OK || again != text {
			t.Fatalf("%q %q %v", text, again, e)
		}
	}
	if read < 5000 {
		t.Error("too few texts were read:", read)
	}
}
