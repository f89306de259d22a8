package watch

import "slices"

// lists is all lists of a base for some days. What was counted of them is kept, as each count needs many others, and most of them often.
type lists struct {
	base, days int
	met        map[part]int
}

// part is some places of a list: how many figures can stand in them, and in how many of the places each figure can at most.
type part struct {
	places, figures, most int
}

// listsOf returns all lists of a base for some days.
func listsOf(base, days int) lists {
	return lists{base: base, days: days, met: map[part]int{}}
}

// all returns how many lists there are.
func (l lists) all() int {
	return power(l.base, l.days)
}

// agreeing returns how many lists agree with one and the same list in a least number of places, or in more.
func (l lists) agreeing(least int) int {
	n := 0
	for places := least; places <= l.days; places++ {
		n += product(choices(l.days, places), power(l.base-1, l.days-places))
	}
	return n
}

// favouring returns how many lists have some figure in a least number of places, or in more: all but those that have each one in fewer places.
func (l lists) favouring(least int) int {
	return l.all() - l.even(part{places: l.days, figures: l.base, most: least - 1})
}

// even returns in how many ways figures can stand in a part of a list.
func (l lists) even(p part) int {
	if p.figures == 0 {
		return power(0, p.places)
	}
	n, met := l.met[p]
	if met {
		return n
	}
	for times := range min(p.most, p.places) + 1 {
		others := part{places: p.places - times, figures: p.figures - 1, most: p.most}
		n += product(choices(p.places, times), l.even(others))
	}
	l.met[p] = n
	return n
}

// excludes reports whether a number of the lists is excluded by odds.
func (l lists) excludes(number, odds int) bool {
	return number <= l.all()/(2*odds)
}

// need returns the least number whose chance is excluded by odds, or one more than the days.
func (l lists) need(odds int, chance func(least int) int) int {
	var chances []int
	for least := range l.days + 1 {
		chances = append(chances, chance(least))
	}
	return first(chances, func(number int) bool { return l.excludes(number, odds) })
}

// first returns the place of the first of some things for which something holds, or one past the last of them.
func first[T any](things []T, holds func(T) bool) int {
	for at, thing := range things {
		if holds(thing) {
			return at
		}
	}
	return len(things)
}

// choices returns in how many ways some of the places can be chosen.
func choices(places, some int) int {
	n := 1
	for i := range some {
		n = product(n, places-i) / (i + 1)
	}
	return n
}

// power returns a number to a power from 0 on.
func power(n, times int) int {
	return product(slices.Repeat([]int{n}, times)...)
}

// product returns the product of some numbers; 1, if there are none.
func product(factors ...int) int {
	n := 1
	for _, factor := range factors {
		n *= factor
	}
	return n
}
