package cone

import (
	"cmp"
	"slices"
)

// hurried returns a watch whose urgent reports come in time.
func (l looked) hurried(urgent []int) looked {
	l.Reports = slices.Clone(l.Reports)
	for _, report := range urgent {
		r := &l.Reports[report]
		r.Delay.Low, r.Delay.High = min(r.Delay.Low, r.Urgent), min(r.Delay.High, r.Urgent)
	}
	return l
}

// suffice reports whether urgent reports suffice for a minute.
func (l looked) suffice(urgent []int, minute int) bool {
	h := l.hurried(urgent)
	sure, seen := h.sights(h.latest).sight()
	return seen && sure <= minute
}

// best returns the best urgent reports for a minute, and whether any suffice.
func (l looked) best(minute int) ([]int, bool) {
	return first(slices.Values(l.proposals()), func(urgent []int) bool {
		return l.suffice(urgent, minute)
	})
}

// proposals returns urgent reports, the better ones first. They are two at most: the others than those of the alarm that is seen in time can be left out.
func (l looked) proposals() [][]int {
	all := [][]int{nil}
	for one := range l.Reports {
		all = append(all, []int{one})
	}
	for pair := range l.pairs() {
		all = append(all, []int{pair.One, pair.Other})
	}
	slices.SortFunc(all, func(a, b []int) int {
		return cmp.Or(cmp.Compare(l.cost(a), l.cost(b)), cmp.Compare(len(a), len(b)), slices.Compare(a, b))
	})
	return all
}

// cost returns the sum of the Costs of urgent reports.
func (l looked) cost(urgent []int) int {
	var costs []int
	for _, report := range urgent {
		costs = append(costs, l.Reports[report].Cost)
	}
	return sum(costs...)
}

// sum returns the sum of numbers.
func sum(numbers ...int) int {
	total := 0
	for _, n := range numbers {
		total += n
	}
	return total
}
