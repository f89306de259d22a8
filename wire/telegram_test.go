package wire_test

import (
	"fmt"
	"slices"
	"strings"
	"testing"

	"isobar/api"
	"isobar/wire"
)

// chapterText is the text of the chapter's telegram.
const chapterText = "no 17 words 3\n75810 27030 92840\nend 052\n"

// closed returns lines with the line that ends their text, if their telegram has some number and tokens.
func closed(lines string, number int, tokens []string) string {
	sum := number
	for i, token := range tokens {
		for place := range len(token) {
			sum += int(token[place]) * (place + 1) * (i + 1)
		}
	}
	return lines + fmt.Sprintf("end %03d\n", sum%101)
}

// TestPrintExamples is for P2.7.
func TestPrintExamples(t *testing.T) {
	for i, x := range []struct {
		number int
		tokens []string
		want   string
	}{
		{17, words("75810 27030 92840"), chapterText},
		{0, nil, "no 0 words 0\nend 000\n"},
		{0, []string{}, "no 0 words 0\nend 000\n"},
		{100, nil, "no 100 words 0\nend 100\n"},
		{101, nil, "no 101 words 0\nend 000\n"},
		{9999, nil, "no 9999 words 0\nend 000\n"},
		// 63 times 15 are 945, which is 9 times 101 and 36
		{1, words("?????"), "no 1 words 1\n?????\nend 037\n"},
		{5, words("abaft 1?a2z end0s 00000 zzzzz"), closed("no 5 words 5\nabaft 1?a2z end0s 00000 zzzzz\n", 5, words("abaft 1?a2z end0s 00000 zzzzz"))},
		{5, words("abaft 11111 22222 00000 zzzzz ?????"), closed("no 5 words 6\nabaft 11111 22222 00000 zzzzz\n?????\n", 5, words("abaft 11111 22222 00000 zzzzz ?????"))},
		{9999, slices.Repeat(words("zzzzz"), 8), closed("no 9999 words 8\nzzzzz zzzzz zzzzz zzzzz zzzzz\nzzzzz zzzzz zzzzz\n", 9999, slices.Repeat(words("zzzzz"), 8))},
	} {
		if s, e := wire.Print(x.number, x.tokens); e != api.OK || s != x.want {
			t.Errorf("%d %q %v", i, s, e)
		}
		if n, tokens, e := wire.Read(x.want); e != api.OK || n != x.number || !slices.Equal(tokens, x.tokens) {
			t.Error(i, n, tokens, e)
		}
	}
}

// TestPrintErrors is for P2.7.
func TestPrintErrors(t *testing.T) {
	for i, x := range []struct {
		number int
		tokens []string
		want   api.Errno
	}{
		{-1, nil, api.ErrArg},
		{10000, nil, api.ErrArg},
		{17, slices.Repeat(words("75810"), 9), api.ErrLong},
		{-1, make([]string, 9), api.ErrLong},
		{17, []string{""}, api.ErrArg},
		{17, make([]string, 8), api.ErrArg},
		{17, words("75810 2703"), api.ErrArg},
		{17, words("75810 270300"), api.ErrArg},
		{17, words("75810 2703A"), api.ErrArg},
		{17, words("75810 2703."), api.ErrArg},
		{17, words("75810 2703/"), api.ErrArg},
		{17, words("75810 2703:"), api.ErrArg},
		{17, words("75810 2703`"), api.ErrArg},
		{17, words("75810 2703{"), api.ErrArg},
		{17, words("75810 270\u00e9"), api.ErrArg},
		{17, words("75810 2703\xff"), api.ErrArg},
		{17, []string{"7581 "}, api.ErrArg},
		{17, []string{"7581\n"}, api.ErrArg},
		{17, []string{"75810 27030"}, api.ErrArg},
	} {
		if s, e := wire.Print(x.number, x.tokens); e != x.want || s != "" {
			t.Errorf("%d %q %v", i, s, e)
		}
	}
}

// TestReadForms is for P2.7: texts that no telegram has.
func TestReadForms(t *testing.T) {
	if n, tokens, e := wire.Read(chapterText); e != api.OK || n != 17 || !slices.Equal(tokens, words("75810 27030 92840")) {
		t.Fatal(n, tokens, e)
	}
	chapter, none := words("75810 27030 92840"), []string(nil)
	six := words("00001 00002 00003 00004 00005 00006")
	nine := slices.Repeat(words("00000"), 9)
	for i, text := range []string{
		"", "\n", " ", "no", "no 17", "no 0 words 0", "no 0 words 0\n", "end 000\n", "no 0 words 0\nend 000", "no 0 words 0\nend 000\n\n", "\nno 0 words 0\nend 000\n",
		"no 0 words 0\n\nend 000\n", " no 0 words 0\nend 000\n", "no 0 words 0 \nend 000\n", "no  0 words 0\nend 000\n", "no\t0 words 0\nend 000\n", "no 0 words 0\r\nend 000\n", "no 0 words 0\nend 000 \n", "no 0 words 0 end 000\n", "no 0\nwords 0\nend 000\n",
		"No 0 words 0\nend 000\n", "no 0 word 0\nend 000\n", "no 0 words 0\nEnd 000\n", "no 0 words 0\nend 0\n", "no 0 words 0\nend 00\n", "no 0 words 0\nend 0000\n", "no 0 words 0\nend 101\n", "no 0 words 0\nend 001\n", "no 0 words 0\nend -00\n", "no 0 words 0\nend\n", "no 0 words 0\n000\n",
		"no 0 words 00\nend 000\n", "no 00 words 0\nend 000\n", "no -0 words 0\nend 000\n", "no +0 words 0\nend 000\n", "no 0 words -0\nend 000\n", "no 0 words 1\nend 000\n", "no x words 0\nend 000\n", "no 0 words x\nend 000\n", "no  words 0\nend 000\n", "no words 0\nend 000\n",
		"no 1" + strings.Repeat("0", 50) + " words 0\nend 000\n", "no \u0660 words 0\nend 000\n",
		closed("no 10000 words 0\n", 10000, none), closed("no 017 words 3\n75810 27030 92840\n", 17, chapter), closed("no -17 words 0\n", 84, none), closed("no 1e1 words 0\n", 10, none),
		closed("no 17 words 4\n75810 27030 92840\n", 17, chapter), closed("no 17 words 2\n75810 27030 92840\n", 17, chapter), closed("no 17 words 03\n75810 27030 92840\n", 17, chapter),
		closed("no 17 words 3\n75810 27030\n92840\n", 17, chapter), closed("no 17 words 3\n75810 27030 92840 \n", 17, chapter), closed("no 17 words 3\n75810  27030 92840\n", 17, chapter), closed("no 17 words 3\n 75810 27030 92840\n", 17, chapter),
		closed("no 17 words 3\n75810 27030 92840\n\n", 17, chapter), closed("no 17 words 3 75810 27030 92840\n", 17, chapter),
		closed("no 17 words 6\n00001 00002 00003 00004 00005 00006\n", 17, six), closed("no 17 words 6\n00001 00002 00003\n00004 00005 00006\n", 17, six), closed("no 17 words 6\n00001\n00002 00003 00004 00005 00006\n", 17, six),
		closed("no 17 words 9\n00000 00000 00000 00000 00000\n00000 00000 00000 00000\n", 17, nine),
		closed("no 17 words 1\n0000\n", 17, words("0000")), closed("no 17 words 1\n000000\n", 17, words("000000")), closed("no 17 words 1\n0000A\n", 17, words("0000A")), closed("no 17 words 1\n000\u00e9\n", 17, words("000\u00e9")), closed("no 17 words 1\n0000\xff\n", 17, words("0000\xff")), closed("no 17 words 1\n0000.\n", 17, words("0000.")),
		chapterText + chapterText, chapterText + "x", chapterText + "\n", strings.TrimSuffix(chapterText, "\n"), strings.Replace(chapterText, "052", "053", 1), strings.Replace(chapterText, "052", "153", 1),
		strings.ReplaceAll(chapterText, "\n", "\r\n"), strings.ToUpper(chapterText), strings.ReplaceAll(chapterText, " ", "\u00a0"), strings.Repeat("x", 200), strings.Repeat(" ", 200),
	} {
		if len(text) > 200 {
			t.Error("too long:", i)
		}
		if n, tokens, e := wire.Read(text); e != api.ErrText || n != 0 || len(tokens) > 0 {
			t.Errorf("%d %q %v %v %v", i, text, n, tokens, e)
		}
	}
	for i, text := range []string{strings.Repeat("x", 201), chapterText + strings.Repeat("\n", 200), strings.Repeat("\xff", 100000)} {
		if n, tokens, e := wire.Read(text); e != api.ErrLong || n != 0 || len(tokens) > 0 {
			t.Error(i, n, tokens, e)
		}
	}
}

// anyTelegram returns a number and tokens.
func (d dicer) anyTelegram() (int, []string) {
	number := d.IntN(10000) >> d.IntN(14)
	var tokens []string
	for range d.IntN(9) {
		token := ""
		for range 5 {
			token += string("0123456789abcdefghijklmnopqrstuvwxyz?"[d.IntN(37)])
		}
		tokens = append(tokens, token)
	}
	return number, tokens
}

// TestTelegramsAgain is for P2.7: what was written is read as what was written, and a character that was changed is noticed.
func TestTelegramsAgain(t *testing.T) {
	d := dice(27)
	for range 60 {
		number, tokens := d.anyTelegram()
		text, e := wire.Print(number, tokens)
		if e != api.OK {
			t.Fatal(number, tokens, e)
		}
		if n, back, e := wire.Read(text); e != api.OK || n != number || !slices.Equal(back, tokens) {
			t.Fatalf("%v %q %q %v %v %v", number, tokens, text, n, back, e)
		}
		for at := range len(text) {
			for _, c := range []byte("0123456789abcdefghijklmnopqrstuvwxyz? \n-A\xff\x00\t") {
				if text[at] == c {
					continue
				}
				changed := text[:at] + string([]byte{c}) + text[at+1:]
				if n, back, e := wire.Read(changed); e != api.ErrText || n != 0 || len(back) > 0 {
					t.Fatalf("%q %v %v %v", changed, n, back, e)
				}
			}
		}
	}
}

// TestReadAgain is for P2.7: what is read is written the same, whatever was done to a text.
func TestReadAgain(t *testing.T) {
	d := dice(37)
	read := 0
	for range 20000 {
		number, tokens := d.anyTelegram()
		text, _ := wire.Print(number, tokens)
		lines := []byte(text[:strings.LastIndex(text, "end")])
		for range d.IntN(3) {
			at := d.IntN(len(lines))
			lines = slices.Replace(lines, at, at+d.IntN(2), "0123456789 nowrds\n"[d.IntN(18)])
		}
		if fields := words(string(lines)); len(fields) > 4 {
			fmt.Sscan(fields[1], &number)
			tokens = fields[4:]
		}
		text = closed(string(lines), number, tokens)
		n, back, e := wire.Read(text)
		if e != api.OK {
			continue
		}
		read++
		if again, e := wire.Print(n, back); e != api.OK || again != text {
			t.Fatalf("%q %q %v", text, again, e)
		}
	}
	if read < 5000 {
		t.Error("too few texts were read:", read)
	}
}
