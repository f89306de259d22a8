package wire

import (
	"slices"
	"strconv"
	"strings"

	"isobar/api"
)

const (
	rowTokens    = 5   // tokens of a line
	checkModulus = 101 // a prime, so that no character that was changed leaves CHECK the same
)

// line returns a line of some words, with its line feed.
func line(words ...string) string {
	return strings.Join(words, " ") + "\n"
}

// written returns the text of a telegram.
func written(number int, tokens []string) string {
	text := line("no", strconv.Itoa(number), "words", strconv.Itoa(len(tokens)))
	for row := range slices.Chunk(tokens, rowTokens) {
		text += line(row...)
	}
	return text + line("end", ending(number, tokens))
}

// ending returns the CHECK of a telegram.
func ending(number int, tokens []string) string {
	sum := number
	for i, token := range tokens {
		for place, c := range token {
			sum += int(c) * (place + 1) * (i + 1)
		}
	}
	return strconv.Itoa(1000 + sum%checkModulus)[1:]
}

// garbled is what the reader of a text gives up with.
type garbled struct{}

// need gives up the reading of a text if something that holds for all telegrams does not hold.
func need(holds bool) {
	if !holds {
		panic(garbled{})
	}
}

// telegram returns the number and the tokens of the telegram that has some text; ErrText if there is none.
func telegram(text string) (number int, tokens []string, e api.Errno) {
	defer func() {
		if _, gave := recover().(garbled); gave {
			number, tokens, e = 0, nil, api.ErrText
		}
	}()
	words := strings.Fields(text)
	// no NUMBER words COUNT, and end CHECK, are six words
	need(len(words) >= 6)
	number = value(words[1])
	tokens = slices.Clone(words[4 : len(words)-2])
	need(soundTelegram(number, tokens))
	// If anything else is wrong with the text, it is not the text of this telegram.
	need(written(number, tokens) == text)
	return number, tokens, api.OK
}
