package wire

import (
	"strings"

	"isobar/api"
)

// The characters of groups and words.
const (
	figures = "0123456789"
	letters = "abcdefghijklmnopqrstuvwxyz"
	unread  = "?"
)

// greatestReading is the greatest number that five figures are.
const greatestReading = 99999

// between reports whether a number lies from low to high.
func between(n, low, high int) bool {
	return low <= n && n <= high
}

// made reports whether a text has five characters, all of them some of the given ones.
func made(text, of string) bool {
	if len(text) != api.WireFigures {
		return false
	}
	for _, c := range text {
		if !strings.ContainsRune(of, c) {
			return false
		}
	}
	return true
}

// soundCode reports whether a code is as defined.
func soundCode(c api.WireCode) bool {
	if !between(len(c.Fields), 1, api.WireFields) || len(c.Turns) != len(figures) || !between(c.Most, 0, api.WireMost) {
		return false
	}
	for _, f := range c.Fields {
		if f.Low < 0 || f.Low > f.High || f.High > greatestReading {
			return false
		}
	}
	for _, set := range c.Turns {
		if !between(set, 0, 1<<len(figures)-1) {
			return false
		}
	}
	return true
}

// soundMessage reports whether a message is one of a code.
func soundMessage(c api.WireCode, message []int) bool {
	if len(message) != len(c.Fields) {
		return false
	}
	for i, f := range c.Fields {
		if !between(message[i], f.Low, f.High) {
			return false
		}
	}
	return true
}

// soundCopy reports whether a copy of a message of a code is as defined.
func soundCopy(c api.WireCode, groups []string) bool {
	if len(groups) != len(c.Fields)+1 {
		return false
	}
	holes := 0
	for _, g := range groups {
		if !made(g, figures+unread) {
			return false
		}
		holes += strings.Count(g, unread)
	}
	return holes <= api.WireHoles
}

// copiesError returns the error of a code and copies of it.
func copiesError(c api.WireCode, copies [][]string) api.Errno {
	if len(copies) > api.WireCopies {
		return api.ErrLong
	}
	if !soundCode(c) || len(copies) == 0 {
		return api.ErrArg
	}
	for _, groups := range copies {
		if !soundCopy(c, groups) {
			return api.ErrArg
		}
	}
	return api.OK
}

// soundBook reports whether a book is as defined.
func soundBook(book []api.WireEntry) bool {
	if len(book) > api.WireEntries {
		return false
	}
	seen := map[string]bool{}
	for _, entry := range book {
		if !made(entry.Word, letters) || seen[entry.Word] ||
			!between(entry.First, 0, greatestReading) || !between(entry.Second, 0, greatestReading) {
			return false
		}
		seen[entry.Word] = true
	}
	return true
}

// soundTariff reports whether a tariff is as defined.
func soundTariff(t api.WireTariff) bool {
	return between(t.Open, 0, api.WirePrice) && between(t.Free, 0, api.WireWords) && between(t.More, 0, api.WirePrice)
}

// soundOffice reports whether a net has an office.
func soundOffice(n api.WireNet, office int) bool {
	return between(office, 0, n.Offices-1)
}

// soundNet reports whether a net is as defined.
func soundNet(n api.WireNet) bool {
	if !between(n.Offices, 1, api.WireOffices) || len(n.Lines) > api.WireLines {
		return false
	}
	for _, l := range n.Lines {
		if !soundOffice(n, l.From) || !soundOffice(n, l.To) || l.From == l.To ||
			!between(l.Price, 0, api.WirePrice) || !between(l.Wrong, 0, api.WireWrong) {
			return false
		}
	}
	return true
}

// soundTelegram reports whether a telegram is as defined.
func soundTelegram(number int, tokens []string) bool {
	if !between(number, 0, api.WireNumber) || len(tokens) > api.WireTokens {
		return false
	}
	for _, token := range tokens {
		if !made(token, figures+letters+unread) {
			return false
		}
	}
	return true
}
