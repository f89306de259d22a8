package wire

import (
	"cmp"
	"slices"

	"isobar/api"
)

// best returns the first of some lists before which no other one comes in an order, and whether there is any.
func best[T any](lists []T, order func(a, b T) int) (T, bool) {
	var found T
	for i, list := range lists {
		if i == 0 || order(list, found) < 0 {
			found = list
		}
	}
	return found, len(lists) > 0
}

// look returns the numbers of all entries whose Word a received word can be.
func look(book []api.WireEntry, word string, miss int) []int {
	var found []int
	for i, entry := range book {
		if misses(word, entry.Word) <= miss {
			found = append(found, i)
		}
	}
	return found
}

// misses returns how many letters of a received word are not those of a Word.
func misses(received, word string) int {
	wrong := 0
	for place := range word {
		if received[place] != unread[0] && received[place] != word[place] {
			wrong++
		}
	}
	return wrong
}

// packing is a message that is packed, and the first Word of the book for each two readings.
type packing struct {
	message []int
	words   map[[2]int]string
}

// word returns the Word for the reading at a place and the next one, and for how many readings it stands: 0 if there is no such Word.
func (p packing) word(at int) (string, int) {
	if at+1 == len(p.message) {
		return "", 0
	}
	word, found := p.words[[2]int{p.message[at], p.message[at+1]}]
	if !found {
		return "", 0
	}
	return word, 2
}

// group returns the group of the reading at a place, which stands for this one alone.
func (p packing) group(at int) (string, int) {
	return group(p.message[at]), 1
}

// all returns all lists of tokens that stand for the message. Where a Word is possible, those with the Word come before those with the group.
func (p packing) all() [][]string {
	var found [][]string
	var extend func(tokens []string, at int)
	extend = func(tokens []string, at int) {
		if at == len(p.message) {
			found = append(found, tokens)
			return
		}
		for _, way := range [2]func(int) (string, int){p.word, p.group} {
			if token, readings := way(at); readings > 0 {
				extend(append(slices.Clone(tokens), token), at+readings)
			}
		}
	}
	extend(nil, 0)
	return found
}

// packed returns the best packing of a message.
func packed(book []api.WireEntry, message []int) []string {
	p := packing{message, map[[2]int]string{}}
	for _, entry := range slices.Backward(book) {
		p.words[[2]int{entry.First, entry.Second}] = entry.Word
	}
	tokens, _ := best(p.all(), func(a, b []string) int {
		return cmp.Compare(len(a), len(b))
	})
	return append(tokens, check(message))
}

// unpacked returns the readings for which some tokens stand, and whether there are such readings and the last token is their check group.
func unpacked(book []api.WireEntry, tokens []string) ([]int, bool) {
	if len(tokens) == 0 {
		return nil, false
	}
	entries := map[string]api.WireEntry{}
	for _, entry := range book {
		entries[entry.Word] = entry
	}
	last := len(tokens) - 1
	var message []int
	for _, token := range tokens[:last] {
		entry, isWord := entries[token]
		switch {
		case isWord:
			message = append(message, entry.First, entry.Second)
		case made(token, figures):
			message = append(message, value(token))
		default:
			return nil, false
		}
	}
	return message, tokens[last] == check(message)
}

// value returns the number that a few figures are; of a text of anything else, it returns some number.
func value(text string) int {
	n := 0
	for _, c := range text {
		n = n*len(figures) + int(c-'0')
	}
	return n
}
