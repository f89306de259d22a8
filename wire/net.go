package wire

import (
	"cmp"
	"slices"

	"isobar/api"
)

// cost returns what a telegram of some words costs, in some copies.
func cost(t api.WireTariff, words, copies int) int {
	one := t.Open + t.More*max(0, words-t.Free)
	return one + (copies-1)*((one+1)/2)
}

// route is a route: its lines, their prices for one word, and its garbles.
type route struct {
	lines   []int
	price   int
	garbles int
}

// longer returns a route with one line more.
func (r route) longer(number int, l api.WireLine) route {
	return route{
		lines:   append(slices.Clone(r.lines), number),
		price:   r.price + l.Price,
		garbles: r.garbles + l.Wrong,
	}
}

// across returns the office to which a line leads from another one, and whether it does.
func across(l api.WireLine, from int) (int, bool) {
	switch from {
	case l.From:
		return l.To, true
	case l.To:
		return l.From, true
	}
	return 0, false
}

// routes returns all routes from an office to another one with garbles of at most most.
func routes(n api.WireNet, from, to, most int) []route {
	var found []route
	var seen [api.WireOffices]bool
	var extend func(r route, at int)
	extend = func(r route, at int) {
		if r.garbles > most {
			return
		}
		if at == to {
			found = append(found, r)
			return
		}
		seen[at] = true
		for i, l := range n.Lines {
			if next, leads := across(l, at); leads && !seen[next] {
				extend(r.longer(i, l), next)
			}
		}
		seen[at] = false
	}
	extend(route{}, from)
	return found
}

// bestRoute returns the best route for some words, and whether there is one.
func bestRoute(n api.WireNet, from, to, words, most int) (route, bool) {
	return best(routes(n, from, to, most), func(a, b route) int {
		return cmp.Or(
			cmp.Compare(a.price*words, b.price*words),
			cmp.Compare(len(a.lines), len(b.lines)),
			slices.Compare(a.lines, b.lines),
		)
	})
}
