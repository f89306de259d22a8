package chart

import (
	"slices"
	"strconv"
	"strings"

	"isobar/api"
)

const (
	numberDigits = 5  // digits that a number can have
	checkModulus = 97 // a prime, so that no digit that was changed leaves CHECK the same
)

// written returns the text of a field.
func written(f api.ChartField) string {
	text := "chart " + joined([]int{f.Wide, len(f.Values) / f.Wide}) + "\n"
	for row := range slices.Chunk(f.Values, f.Wide) {
		text += joined(row) + "\n"
	}
	return text + ending(f)
}

// joined returns some numbers with blanks between them.
func joined(numbers []int) string {
	var words []string
	for _, n := range numbers {
		words = append(words, strconv.Itoa(n))
	}
	return strings.Join(words, " ")
}

// ending returns the last line of the text of a field, with its line feed.
func ending(f api.ChartField) string {
	sum := f.Wide
	for point, value := range f.Values {
		sum += value * (1 + point/f.Wide)
	}
	return "end " + strconv.Itoa(100 + sum%checkModulus)[1:] + "\n"
}

// read returns the field of a text, whether it is as defined or not, and whether the text has the right form.
func read(text string) (api.ChartField, bool) {
	head, left, _ := strings.Cut(text, "\n")
	size, named := strings.CutPrefix(head, "chart ")
	numbers, formed := split(size)
	if !named || !formed || len(numbers) != 2 {
		return api.ChartField{}, false
	}
	f := api.ChartField{Wide: numbers[0]}
	for range numbers[1] {
		row, rest, ended := strings.Cut(left, "\n")
		values, formed := split(row)
		if !ended || !formed || len(values) != f.Wide {
			return api.ChartField{}, false
		}
		f.Values = append(f.Values, values...)
		left = rest
	}
	return f, left == ending(f)
}

// split returns the numbers of a line, and whether it has numbers alone, with a blank between each two.
func split(line string) ([]int, bool) {
	if line == "" {
		return nil, true
	}
	var numbers []int
	for _, word := range strings.Split(line, " ") {
		n, formed := number(word)
		if !formed {
			return nil, false
		}
		numbers = append(numbers, n)
	}
	return numbers, true
}

// number returns the number that a word is, and whether it is one.
func number(word string) (int, bool) {
	if word == "" || len(word) > numberDigits || word[0] == '0' && word != "0" {
		return 0, false
	}
	n := 0
	for _, c := range word {
		if c < '0' || c > '9' {
			return 0, false
		}
		n = 10*n + int(c-'0')
	}
	return n, true
}
