package wire

import (
	"iter"
	"slices"
	"strconv"

	"isobar/api"
)

// group returns a reading in five figures.
func group(reading int) string {
	return strconv.Itoa(greatestReading + 1 + reading)[1:]
}

// check returns the check group of a message.
func check(message []int) string {
	var sums [api.WireFigures]int
	for _, reading := range message {
		for place, c := range group(reading) {
			sums[place] += int(c - '0')
		}
	}
	text := ""
	for _, sum := range sums {
		text += strconv.Itoa(sum % len(figures))
	}
	return text
}

// groups returns the groups of a message, the check group last.
func groups(message []int) []string {
	var list []string
	for _, reading := range message {
		list = append(list, group(reading))
	}
	return append(list, check(message))
}

// received is a code with copies of a message of it.
type received struct {
	api.WireCode
	copies [][]string
}

// wrong returns how many figures are wrong, 0 or 1, where a figure was received as a character, and whether it can have been.
func (r received) wrong(figure int, as byte) (int, bool) {
	if as == unread[0] || as == figures[figure] {
		return 0, true
	}
	return 1, r.Turns[figure]>>(as-'0')&1 == 1
}

// from reports whether all copies can have come from a message with some groups.
func (r received) from(groups []string) bool {
	for _, garbled := range r.copies {
		wrong := 0
		for i, group := range groups {
			for place, c := range group {
				more, can := r.wrong(int(c-'0'), garbled[i][place])
				if !can {
					return false
				}
				wrong += more
			}
		}
		if wrong > r.Most {
			return false
		}
	}
	return true
}

// part is the first figures of the readings of a message, as numbers, and how many figures at these places, those of the check group too, are wrong in each copy.
type part struct {
	readings [api.WireFields]int
	wrong    [api.WireCopies]int
}

// followed returns a part with the figures of one place more.
func (p part) followed(by part) part {
	for i := range p.readings {
		p.readings[i] = p.readings[i]*len(figures) + by.readings[i]
	}
	for i := range p.wrong {
		p.wrong[i] += by.wrong[i]
	}
	return p
}

// allows reports whether no copy has more wrong figures in a part than it can have.
func (r received) allows(p part) bool {
	for _, wrong := range p.wrong {
		if wrong > r.Most {
			return false
		}
	}
	return true
}

// column returns a part of one place, at which the readings have the digits of a choice as figures, and whether the copies allow it.
func (r received) column(place, choice int) (part, bool) {
	var p part
	var column [api.WireFields + 1]int
	sum := 0
	for field := range r.Fields {
		figure := choice % len(figures)
		choice /= len(figures)
		p.readings[field], column[field] = figure, figure
		sum += figure
	}
	column[len(r.Fields)] = sum % len(figures)
	for i, garbled := range r.copies {
		for g, group := range garbled {
			more, can := r.wrong(column[g], group[place])
			if !can {
				return part{}, false
			}
			p.wrong[i] += more
		}
	}
	return p, r.allows(p)
}

// columns yields all parts of one place that the copies allow.
func (r received) columns(place int) iter.Seq[part] {
	return func(yield func(part) bool) {
		choices := 1
		for range r.Fields {
			choices *= len(figures)
		}
		for choice := range choices {
			p, can := r.column(place, choice)
			if can && !yield(p) {
				return
			}
		}
	}
}

// messages returns all messages that the copies can be, in order.
func (r received) messages() [][]int {
	var columns [api.WireFigures][]part
	for place := range api.WireFigures {
		for p := range r.columns(place) {
			columns[place] = append(columns[place], p)
		}
	}
	var found [][]int
	var finish func(begun part, place int)
	finish = func(begun part, place int) {
		if place == api.WireFigures {
			message := slices.Clone(begun.readings[:len(r.Fields)])
			if soundMessage(r.WireCode, message) {
				found = append(found, message)
			}
			return
		}
		for _, p := range columns[place] {
			if longer := begun.followed(p); r.allows(longer) {
				finish(longer, place+1)
			}
		}
	}
	finish(part{}, 0)
	slices.SortFunc(found, slices.Compare[[]int])
	return found
}
