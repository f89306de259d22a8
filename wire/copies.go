package wire

import "slices"

// only returns the code with some of the copies.
func (r received) only(set []int) received {
	var copies [][]string
	for _, i := range set {
		copies = append(copies, r.copies[i])
	}
	return received{r.WireCode, copies}
}

// clash returns the fewest copies that contradict, none if they do not.
func (r received) clash() []int {
	var found []int
search:
	for fewer := range r.copies {
		for _, set := range sets(len(r.copies)) {
			if len(set) == fewer+1 && len(r.only(set).messages()) == 0 {
				found = set
				break search
			}
		}
	}
	return found
}

// sets returns all sets of some of the first n numbers that are not empty, in lexicographic order.
func sets(n int) [][]int {
	var found [][]int
	var extend func(set []int, from int)
	extend = func(set []int, from int) {
		for i := from; i < n; i++ {
			longer := append(slices.Clone(set), i)
			found = append(found, longer)
			extend(longer, i+1)
		}
	}
	extend(nil, 0)
	return found
}

// known returns the groups of the fields, with ? for those figures that are not the same in all messages.
func known(messages [][]int) []string {
	var list []string
	for field := range messages[0] {
		common := group(messages[0][field])
		for _, message := range messages {
			common = shared(common, group(message[field]))
		}
		list = append(list, common)
	}
	return list
}

// shared returns a group with the figures that two groups both have, and ? for the others.
func shared(a, b string) string {
	text := ""
	for place := range a {
		if a[place] == b[place] {
			text += a[place : place+1]
		} else {
			text += unread
		}
	}
	return text
}

// doubt returns the group to repeat, and the greatest number of messages that have the same group there.
func doubt(messages [][]int) (int, int) {
	var sent [][]string
	for _, message := range messages {
		sent = append(sent, groups(message))
	}
	repeat, least := 0, len(sent)
	for i := range sent[0] {
		if most := mostEqual(sent, i); most < least {
			repeat, least = i, most
		}
	}
	return repeat, least
}

// mostEqual returns the greatest number of lists that have the same group at a place.
func mostEqual(lists [][]string, at int) int {
	counts := map[string]int{}
	most := 0
	for _, list := range lists {
		counts[list[at]]++
		most = max(most, counts[list[at]])
	}
	return most
}
