package bureau

import (
	"iter"
	"strconv"
	"strings"

	"isobar/api"
)

// The words of acts.
const (
	wordRead   = "read"
	wordWire   = "wire"
	wordShip   = "ship"
	wordReport = "report"
	wordState  = "state"
	wordCame   = "came"
)

// groupMark stands between two groups of a copy.
const groupMark = "."

// line returns the line of an act, with its line feed.
func line(a act) string {
	text := ""
	switch a := a.(type) {
	case reading:
		text = wordRead + " " + words(a.station, a.Day, a.Minute, int(a.Clock), a.Mercury,
			a.Attached.Low, a.Attached.High, a.Dry.Low, a.Dry.High, a.Wet.Low, a.Wet.High)
	case telegram:
		text = wordWire + " " + words(a.station, a.day)
		for _, groups := range a.copies {
			text += " " + strings.Join(groups, groupMark)
		}
	case shipLog:
		text = wordShip + " " + words(a.number, a.day, a.point, a.pressure.Low, a.pressure.High)
	case report:
		text = wordReport + " " + words(a.Station, a.Taken, a.Pressure, a.Delay.Low, a.Delay.High, a.Urgent, a.Cost)
	case statement:
		text = wordState + " " + words(a.day, a.district) + " " + words(a.parts...)
	case verification:
		text = wordCame + " " + words(a.day, a.district, a.set)
	}
	return text + "\n"
}

// words returns numbers as words, with a single blank between two of them.
func words(numbers ...int) string {
	var list []string
	for _, n := range numbers {
		list = append(list, strconv.Itoa(n))
	}
	return strings.Join(list, " ")
}

// lines yields the lines of a text without their line feeds, each with whether it has one.
func lines(text string) iter.Seq2[string, bool] {
	return func(yield func(string, bool) bool) {
		for left := text; left != ""; {
			row, rest, ended := strings.Cut(left, "\n")
			if !yield(row, ended) {
				return
			}
			left = rest
		}
	}
}

// repeat does all lines of a journal; if a line cannot be done, it returns its number and its error.
func (b *Bureau) repeat(journal string) (int, api.Errno) {
	number, e := 0, api.OK
search:
	for row, ended := range lines(journal) {
		a, is := readAs(row, acts())
		switch {
		case !ended:
			e = api.ErrText
			break search
		case len(row) > api.BureauLine:
			e = api.ErrLong
			break search
		case !is:
			e = api.ErrText
			break search
		}
		if e = b.perform(a); e != api.OK {
			break search
		}
		number++
	}
	return number, e
}

// answers returns the lines that the console returns for a script.
func (b *Bureau) answers(script string) string {
	var list []string
	for row := range lines(script) {
		if row != "" {
			list = append(list, b.answer(row)+"\n")
		}
	}
	return strings.Join(list, "")
}

// answer returns what the console returns for a line.
func (b *Bureau) answer(row string) string {
	numbers, e := b.Do(row)
	switch {
	case e != api.OK:
		return "error " + words(int(e))
	case numbers == "":
		return "ok"
	}
	return numbers
}
