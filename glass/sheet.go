package glass

import (
	"strconv"
	"strings"

	"isobar/api"
)

// clockLetters has a letter for each clock, in their order.
const clockLetters = "rse"

// numberDigits is how many digits a number of a sheet can have.
const numberDigits = 5

// line returns the line of a reading, with its line feed.
func line(r api.GlassReading) string {
	words := []string{
		strconv.Itoa(r.Day),
		strconv.Itoa(r.Minute),
		clockLetters[r.Clock-api.GlassRail : r.Clock],
		strconv.Itoa(r.Mercury),
	}
	for _, s := range [3]api.Span{r.Attached, r.Dry, r.Wet} {
		words = append(words, strconv.Itoa(s.Low), strconv.Itoa(s.High))
	}
	return strings.Join(words, " ") + "\n"
}

// ending returns the last line of a text that has some lines of readings.
func ending(lines string) string {
	sum, number := 0, 0
	for _, c := range lines {
		if c >= '0' && c <= '9' {
			sum += int(c-'0') * (1 + number%8)
			number++
		}
	}
	check := strconv.Itoa(100 + sum%97)
	return "end " + check[1:] + "\n"
}

// unreadable is what the reader of a text gives up with.
type unreadable struct{}

// giveUp leaves the reading of a text that is not one of a sheet.
func giveUp() {
	panic(unreadable{})
}

// readings returns the readings of a text, whether they are as defined or not; ErrText if the text has not the form of a sheet's.
func readings(text string) (l []api.GlassReading, e api.Errno) {
	defer func() {
		if _, gave := recover().(unreadable); gave {
			l, e = nil, api.ErrText
		}
	}()
	left := text
	for !strings.HasPrefix(left, "end") {
		row, rest, found := strings.Cut(left, "\n")
		if !found {
			giveUp()
		}
		l = append(l, reading(row))
		left = rest
	}
	if left != ending(text[:len(text)-len(left)]) {
		giveUp()
	}
	return l, api.OK
}

// reading returns the reading of a line.
func reading(row string) api.GlassReading {
	r := reader{words: strings.Split(row, " ")}
	var g api.GlassReading
	g.Day = r.number()
	g.Minute = r.number()
	g.Clock = r.clock()
	g.Mercury = r.number()
	g.Attached = r.span()
	g.Dry = r.span()
	g.Wet = r.span()
	r.finish()
	return g
}

// reader reads the words of a line, and gives up where they are not as they must be.
type reader struct {
	words []string
}

// word returns the next word.
func (r *reader) word() string {
	if len(r.words) == 0 {
		giveUp()
	}
	word := r.words[0]
	r.words = r.words[1:]
	return word
}

// finish gives up if words are left.
func (r *reader) finish() {
	if len(r.words) > 0 {
		giveUp()
	}
}

// clock returns the clock of which the next word is the letter.
func (r *reader) clock() api.GlassClock {
	word := r.word()
	at := strings.Index(clockLetters, word)
	if len(word) != 1 || at < 0 {
		giveUp()
	}
	return api.GlassRail + api.GlassClock(at)
}

// number returns the number that the next word is.
func (r *reader) number() int {
	word := r.word()
	digits, minus := strings.CutPrefix(word, "-")
	if digits == "" || len(digits) > numberDigits || digits[0] == '0' && word != "0" {
		giveUp()
	}
	n := 0
	for _, c := range digits {
		if c < '0' || c > '9' {
			giveUp()
		}
		n = 10*n + int(c-'0')
	}
	if minus {
		return -n
	}
	return n
}

// span returns the span whose ends are the next two words.
func (r *reader) span() api.Span {
	lowest := r.number()
	highest := r.number()
	return api.Span{Low: lowest, High: highest}
}
