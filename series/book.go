package series

import (
	"strconv"
	"strings"

	"isobar/api"
)

const (
	numberDigits = 5   // digits that a number can have
	checkModulus = 101 // a prime that is greater than how far two characters of a number differ, so that none that was changed leaves CHECK the same
	checkFactors = 10  // lines after which the factors come again
)

// written returns the text of a suite.
func written(s api.SeriesSuite) string {
	lines := []string{line("series", texts(s.First, s.Shelters, s.Change)...)}
	for at, y := range s.Years {
		lines = append(lines, yearLine(s.First+at, y))
	}
	for _, c := range s.Checks {
		lines = append(lines, line("check", texts(c.A, c.B, c.Differ.Low, c.Differ.High)...))
	}
	return strings.Join(lines, "") + line("end", ending(lines))
}

// line returns a line of some words, with its line feed.
func line(word string, more ...string) string {
	for _, next := range more {
		word += " " + next
	}
	return word + "\n"
}

// texts returns some numbers as words.
func texts(numbers ...int) []string {
	var words []string
	for _, n := range numbers {
		words = append(words, strconv.Itoa(n))
	}
	return words
}

// yearLine returns the line of a year.
func yearLine(year int, y api.SeriesYear) string {
	if !y.Read {
		return line(strconv.Itoa(year), strconv.Itoa(y.Shelter), "-")
	}
	return line(strconv.Itoa(year), texts(y.Shelter, y.Reading.Low, y.Reading.High)...)
}

// ending returns the CHECK of some lines.
func ending(lines []string) string {
	sum := 0
	for at, row := range lines {
		for _, b := range []byte(strings.TrimSuffix(row, "\n")) {
			sum += int(b) * (1 + at%checkFactors)
		}
	}
	return strconv.Itoa(1000 + sum%checkModulus)[1:]
}

// need gives up the reading of a text if something that holds for all books does not hold.
func need(holds bool) {
	if !holds {
		panic(unreadable{})
	}
}

// book returns the suite of a text, whether it is as defined or not; it gives up if the text is no book.
func book(text string) api.SeriesSuite {
	rows := strings.Split(text, "\n")
	// the first line, that of CHECK, and what is behind its line feed
	need(len(rows) >= 3)
	head := decimals(strings.Split(rows[0], " ")[1:], 3)
	s := api.SeriesSuite{First: head[0], Shelters: head[1], Change: head[2]}
	for _, row := range rows[1 : len(rows)-2] {
		words := strings.Split(row, " ")
		switch {
		case words[0] == "check":
			n := decimals(words[1:], 4)
			s.Checks = append(s.Checks, api.SeriesCheck{A: n[0], B: n[1], Differ: api.Span{Low: n[2], High: n[3]}})
		case len(words) == 3:
			n := decimals(words[:2], 2)
			s.Years = append(s.Years, api.SeriesYear{Shelter: n[1]})
		default:
			n := decimals(words, 4)
			s.Years = append(s.Years, api.SeriesYear{Shelter: n[1], Read: true, Reading: api.Span{Low: n[2], High: n[3]}})
		}
	}
	// If anything else is wrong with the text, it is not the text of this suite.
	need(written(s) == text)
	return s
}

// decimals returns the numbers that some words are, and gives up if there are not as many.
func decimals(words []string, count int) []int {
	need(len(words) == count)
	var all []int
	for _, word := range words {
		all = append(all, decimal(word))
	}
	return all
}

// decimal returns the number that a word is.
func decimal(word string) int {
	digits, minus := strings.CutPrefix(word, "-")
	need(digits != "" && len(digits) <= numberDigits)
	n := 0
	for _, c := range digits {
		need('0' <= c && c <= '9')
		n = 10*n + int(c-'0')
	}
	if minus {
		return -n
	}
	return n
}
